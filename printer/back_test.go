package printer_test

import (
	"reflect"
	"testing"

	"accesscontrol/api"
	"accesscontrol/printer"
	"accesscontrol/syntax"
)

// maker makes well-formed values by a rule that picks numbers.
type maker func(int) int

func (pick maker) name() string {
	l := []string{"a", "b", "_", "Z9", "u1", "dom", "link", "object_r", "nnnnnnnnnnnnnnnnnnnnnnnnnnnnnnnn"}
	return l[pick(len(l))]
}

// list returns up to three names, and at least so many.
func (pick maker) list(least int) []string {
	var l []string
	for range least + pick(4-least) {
		l = append(l, pick.name())
	}
	return l
}

func (pick maker) set(self bool) api.NameSet {
	n := api.NameSet{Not: pick(3) == 0, All: pick(4) == 0, Self: self && pick(2) == 0, Names: pick.list(0), Except: pick.list(0)}
	if !n.All && !n.Self && len(n.Names)+len(n.Except) == 0 {
		n.Names = pick.list(1)
	}
	return n
}

func (pick maker) level() api.LevelText {
	l := api.LevelText{Sens: pick.name()}
	for _, s := range pick.list(0) {
		span := api.Span{From: s}
		if pick(2) == 0 {
			span.To = pick.name()
		}
		l.Cats = append(l.Cats, span)
	}
	return l
}

func (pick maker) levels() api.RangeText {
	r := api.RangeText{Low: pick.level()}
	if pick(2) == 0 {
		r.High = pick.level()
	}
	return r
}

func (pick maker) context() api.ContextText {
	return api.ContextText{User: pick.name(), Role: pick.name(), Type: pick.name(), Range: pick.levels()}
}

// condition returns a condition with at most so many levels.
func (pick maker) condition(levels int) api.Expr {
	if levels == 1 || pick(3) == 0 {
		return boolean(pick.name())
	}
	e := api.Expr{Op: api.ExprNot + pick(6), Kids: []api.Expr{pick.condition(levels - 1)}}
	if e.Op != api.ExprNot {
		e.Kids = append(e.Kids, pick.condition(levels-1))
	}
	return e
}

// constraint returns an expression with at most so many levels.
func (pick maker) constraint(attributes, levels int) api.Expr {
	if levels == 1 || pick(3) == 0 {
		if pick(3) == 0 {
			return in(pick(attributes), pick.list(1)...)
		}
		return compare(pick(attributes), pick(5), pick(attributes))
	}
	e := api.Expr{Op: api.ExprNot + pick(3), Kids: []api.Expr{pick.constraint(attributes, levels-1)}}
	if e.Op != api.ExprNot {
		e.Kids = append(e.Kids, pick.constraint(attributes, levels-1))
	}
	return e
}

// statement returns a statement with at most so many levels of blocks.
func (pick maker) statement(levels int) api.Stmt {
	kind := api.StmtClass + pick(api.StmtAssert)
	if levels == 0 && (kind == api.StmtIf || kind == api.StmtOptional) {
		kind = api.StmtRule
	}
	s := api.Stmt{Kind: kind}
	for _, field := range fieldsOf(s) {
		pick.fill(&s, field, levels)
	}
	if kind == api.StmtRequire && s.Op == api.SymClass {
		s.Name = pick.name()
	}
	if kind == api.StmtRole && pick(3) == 0 {
		s.Source = api.NameSet{}
	}
	return s
}

// fill makes a field of a statement; Op is made before Text is.
func (pick maker) fill(s *api.Stmt, field string, levels int) {
	switch field {
	case "Op":
		s.Op = map[int]int{api.StmtRule: 1 + pick(4), api.StmtTrans: 1 + pick(3), api.StmtRequire: 1 + pick(8), api.StmtFile: pick(5), api.StmtAssert: 1 + pick(3)}[s.Kind]
	case "Name":
		s.Name = pick.name()
	case "Result":
		s.Result = pick.name()
	case "Text":
		s.Text = []string{"x", "..", "!~#", "{}"}[pick(4)]
		if s.Kind == api.StmtTrans && (s.Op != api.TransCreate || pick(2) == 0) {
			s.Text = ""
		}
	case "List":
		s.List = pick.list(1)
	case "Aliases":
		s.Aliases = pick.list(0)
	case "Source":
		s.Source = pick.set(false)
	case "Target":
		s.Target = pick.set(s.Kind == api.StmtRule)
	case "Class":
		s.Class = pick.set(false)
	case "Perms":
		s.Perms = pick.set(false)
	case "Level":
		s.Level = pick.level()
	case "Range":
		s.Range = pick.levels()
	case "Context":
		s.Context = pick.context()
	case "Value":
		s.Value = pick(2) == 0
	default:
		pick.fillBlocks(s, levels)
	}
}

// fillBlocks makes the condition and the blocks of a statement.
func (pick maker) fillBlocks(s *api.Stmt, levels int) {
	switch s.Kind {
	case api.StmtIf:
		s.Cond = pick.condition(5)
	case api.StmtConstrain:
		s.Cond = pick.constraint(10, 5)
	case api.StmtValidate:
		s.Cond = pick.constraint(15, 5)
	}
	if s.Kind == api.StmtIf || s.Kind == api.StmtOptional {
		s.Then, s.Else = pick.statements(1+pick(2), levels-1), pick.statements(pick(2), levels-1)
	}
}

func (pick maker) statements(n, levels int) []api.Stmt {
	var l []api.Stmt
	for range n {
		l = append(l, pick.statement(levels))
	}
	return l
}

// withoutPositions returns the statements with zero positions.
func withoutPositions(l []api.Stmt) []api.Stmt {
	var plain []api.Stmt
	for _, s := range l {
		s.Pos, s.Then, s.Else = api.Pos{}, withoutPositions(s.Then), withoutPositions(s.Else)
		plain = append(plain, s)
	}
	return plain
}

// P8.5: the source of a module is parsed as the same module; printing does not change it.
func TestModulesAreParsed(t *testing.T) {
	kinds := map[int]bool{}
	for seed := range 2000 {
		pick := maker(picker(seed))
		m := api.Module{Name: pick.name(), Version: pick(10000), Stmts: pick.statements(pick(8), pick(5))}
		old := cloned(m.Stmts)
		src, code := printer.Module(m)
		back, f := syntax.Parse(src)
		if code != api.OK || printer.Check(m) != api.OK || f != (api.Fault{}) || !printer.Same(back, m) || !reflect.DeepEqual(withoutPositions(back.Stmts), m.Stmts) || back.Name != m.Name || back.Version != m.Version {
			t.Fatalf("%q, %v: parsed with %v as %s, want %s", src, code, f, brief(back), brief(m))
		}
		again, _ := printer.Module(back)
		if again != src || !reflect.DeepEqual(m.Stmts, old) {
			t.Errorf("%q: printed again as %q", src, again)
		}
		for _, s := range m.Stmts {
			kinds[s.Kind] = true
		}
	}
	if len(kinds) != api.StmtAssert {
		t.Errorf("only %d kinds of statements", len(kinds))
	}
}

// P8.5: the sources of statements and of parts are parsed as they were.
func TestPartsAreParsed(t *testing.T) {
	for seed := range 2000 {
		pick := maker(picker(seed))
		s := api.Stmt{Target: pick.set(true), Range: pick.levels(), Context: pick.context(), Cond: pick.constraint(15, 6)}
		names, _ := printer.Names(s.Target)
		levels, _ := printer.Range(s.Range)
		context, _ := printer.Context(s.Context)
		constraint, _ := printer.Constraint(s.Cond, true)
		var back api.Stmt
		var faults [4]api.Fault
		back.Target, faults[0] = syntax.Names(names)
		back.Range, faults[1] = syntax.Range(levels)
		back.Context, faults[2] = syntax.Context(context)
		back.Cond, faults[3] = syntax.Constraint(constraint, true)
		if faults != [4]api.Fault{} || !reflect.DeepEqual(back, s) {
			t.Errorf("%q, %q, %q, %q: got %v, %v, want %v", names, levels, context, constraint, faults, back, s)
		}
		x := pick.statement(3)
		src, code := printer.Statement(x, pick(api.MaxNest+1))
		l, f := syntax.Statements(src)
		if code != api.OK || f != (api.Fault{}) || !reflect.DeepEqual(withoutPositions(l), []api.Stmt{x}) {
			t.Errorf("%q, %v: parsed with %v as %v, want %v", src, code, f, l, x)
		}
	}
}
