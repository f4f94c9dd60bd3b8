package linker_test

import (
	"math"
	"slices"
	"testing"

	"accesscontrol/api"
	"accesscontrol/linker"
)

// nested returns a name within so many negations.
func nested(levels int) api.Expr {
	e := api.Expr{Op: api.ExprName, Names: []string{"p"}}
	for range levels {
		e = api.Expr{Op: api.ExprNot, Kids: []api.Expr{e}}
	}
	return e
}

// junk changes a statement to one that printer.Check may refuse.
func (pick picker) junk(s api.Stmt, others []api.Stmt, deep api.Expr) api.Stmt {
	other := others[pick(len(others))]
	exprs := []api.Expr{{}, {Op: api.ExprName}, {Op: api.ExprName, Names: []string{"p", "z"}}, {Op: api.ExprIn, A: -5, Names: []string{"a"}}, {Op: api.ExprIn, A: math.MinInt}, {Op: api.ExprCompare, A: 99}, deep, other.Cond}
	switch pick(12) {
	case 0:
		s.Kind = pick(26) - 1
	case 1:
		s.Op = pick(12) - 2
	case 2:
		s.Name, s.Result, s.Text = "", other.Name, "\"/"
	case 3:
		s.List, s.Aliases = other.List, []string{"", "a", "new", "new"}
	case 4:
		s.Source, s.Target = other.Target, api.NameSet{Names: []string{"", "object_r"}}
	case 5:
		s.Class, s.Perms = other.Source, other.Class
	case 6, 7:
		s.Cond = exprs[pick(len(exprs))]
	case 8:
		s.Level, s.Range = api.LevelText{}, api.RangeText{High: api.LevelText{Cats: []api.Span{{}}}}
	case 9:
		s.Context = other.Context
	case 10:
		s.Then, s.Else = []api.Stmt{other, s}, []api.Stmt{other}
	default:
		s = api.Stmt{Kind: s.Kind}
	}
	return s
}

// P1: Link of modules that printer.Check refuses ends, and the policies that it returns can be asked and checked.
func TestAnyModules(t *testing.T) {
	accepted, deep := 0, nested(20000)
	for seed := range 600 {
		l := random(t, seed)
		pick := newPicker(seed + 1)
		for i := range l {
			for range 1 + pick(2) {
				j := pick(len(l[i].Stmts))
				l[i].Stmts[j] = pick.junk(l[i].Stmts[j], l[i].Stmts, deep)
			}
		}
		p, n, f := linker.Link(l)
		if f.Code == api.OK {
			accepted++
		} else if n < 0 || n >= len(l) || !same(p, api.Policy{}) {
			t.Errorf("seed %d: got %v, %d, %v", seed, p, n, f)
		}
		linker.Check(p)
		linker.Env(p)
		for kind := -1; kind < 10; kind++ {
			linker.Symbol(p, kind, "")
			linker.Count(p, kind)
		}
	}
	if accepted < 50 {
		t.Errorf("only %d modules are linked", accepted)
	}
	block := api.Stmt{Kind: api.StmtIf}
	for range 30000 {
		block = api.Stmt{Kind: api.StmtIf, Then: []api.Stmt{block}}
	}
	for _, s := range []api.Stmt{block, {Kind: api.StmtIf, Cond: deep}, {Kind: math.MinInt}, {Kind: math.MaxInt}} {
		linker.Link([]api.Module{{}, {Name: "m", Stmts: []api.Stmt{s}}})
	}
	linker.Link(slices.Repeat([]api.Module{{}}, 100000))
}

// P1: Check of any policy ends.
func TestAnyPolicy(t *testing.T) {
	deep := nested(60000)
	checkSpoiled(t, []spoiled{
		{api.ErrLong, func(p *api.Policy) { p.Conds[0] = deep }},
		{api.ErrLong, func(p *api.Policy) { p.Constraints[0].Expr = deep }},
		{api.ErrLong, func(p *api.Policy) { p.Rules = make([]api.Rule, 1000000) }},
		{api.ErrRange, func(p *api.Policy) { p.Rules[0].Class = math.MaxInt }},
		{api.ErrRange, func(p *api.Policy) { p.Trans[0].Result = math.MinInt }},
		{api.ErrRange, func(p *api.Policy) { p.RoleTrans[0].Result = math.MaxInt }},
		{api.ErrRange, func(p *api.Policy) { p.Constraints[0].Expr.Kids[0].A = math.MinInt }},
		{api.ErrLevel, func(p *api.Policy) { p.Ranges[0].Range.Low.Sens = math.MinInt }},
		{api.ErrRange, func(p *api.Policy) { p.Files[0].Context.Type = math.MinInt }},
		{api.ErrName, func(p *api.Policy) { p.Sens[0] = string(make([]byte, 1<<20)) }},
	})
}
