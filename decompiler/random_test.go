package decompiler_test

import (
	"slices"
	"strconv"
	"strings"
	"testing"

	"accesscontrol/api"
)

// picker picks numbers below its argument, by a rule that the seed begins.
type picker func(int) int

func newPicker(seed int) picker {
	state := uint32(seed)
	return func(n int) int {
		state = state*1664525 + 1013904223
		return int(state>>16) % n
	}
}

// seldom is true in one of so many cases.
func (pick picker) seldom(n int) bool { return pick(n) == 0 }

// names picks so many different names.
func (pick picker) names(prefix string, count int) []string {
	var l []string
	for n := range count {
		name := prefix + strconv.Itoa(n)
		if pick.seldom(4) {
			name += strings.Repeat("_", api.MaxName-len(name))
		}
		l = append(l, name)
	}
	return l
}

// set picks a set of numbers from first up to one below end that is not empty.
func (pick picker) set(first, end int) api.Set {
	n := first + pick(end-first)
	s := api.Set{}
	s[n/64] |= 1 << (n % 64)
	for n := first; n < end; n++ {
		if pick.seldom(3) {
			s[n/64] |= 1 << (n % 64)
		}
	}
	return s
}

// anySet picks a set that may be empty.
func (pick picker) anySet(first, end int) api.Set {
	if end == first || pick.seldom(3) {
		return api.Set{}
	}
	return pick.set(first, end)
}

func (pick picker) vector(count int) uint32 {
	v := uint32(1) << pick(count)
	for n := range count {
		if pick.seldom(3) {
			v |= 1 << n
		}
	}
	return v
}

// levels picks a range between two levels.
func (pick picker) levels(within api.Range) api.Range {
	low, high := within.Low, within.Low
	for n := range 64 {
		category := uint64(1) << n & within.High.Cats
		if pick.seldom(3) {
			high.Cats |= category
			if pick.seldom(2) {
				low.Cats |= category
			}
		}
	}
	low.Sens += pick(within.High.Sens - within.Low.Sens + 1)
	high.Sens = low.Sens + pick(within.High.Sens-low.Sens+1)
	return api.Range{Low: low, High: high}
}

// all returns the range of all levels of a policy.
func all(p *api.Policy) api.Range {
	return api.Range{High: api.Level{Sens: len(p.Sens) - 1, Cats: 1<<len(p.Cats) - 1}}
}

func (pick picker) condition(bools, levels int) api.Expr {
	if levels == 1 || pick.seldom(4) {
		return api.Expr{Op: api.ExprName, A: pick(bools)}
	}
	e := api.Expr{Op: []int{api.ExprNot, api.ExprAnd, api.ExprOr, api.ExprXor, api.ExprSame, api.ExprDiffer}[pick(6)]}
	return pick.operands(e, func() api.Expr { return pick.condition(bools, levels-1) })
}

// operands gives an operator what operands it has. Only the first one may have many levels.
func (pick picker) operands(e api.Expr, operand func() api.Expr) api.Expr {
	e.Kids = []api.Expr{operand()}
	if e.Op == api.ExprNot {
		return e
	}
	second := operand()
	for len(second.Kids) > 0 {
		second = second.Kids[0]
	}
	e.Kids = append(e.Kids, second)
	return e
}

// expression picks the expression of a constraint for so many contexts.
func (pick picker) expression(p *api.Policy, contexts, levels int) api.Expr {
	if levels > 1 && !pick.seldom(3) {
		e := api.Expr{Op: []int{api.ExprNot, api.ExprAnd, api.ExprOr}[pick(3)]}
		return pick.operands(e, func() api.Expr { return pick.expression(p, contexts, levels-1) })
	}
	sort := pick(api.AttrsOfContext)
	attribute := func() int { return sort + api.AttrsOfContext*pick(contexts) }
	if sort >= api.AttrLow {
		return api.Expr{Op: api.ExprCompare, A: attribute(), Rel: pick(5), B: api.AttrLow + pick(2) + api.AttrsOfContext*pick(contexts)}
	}
	if pick.seldom(2) {
		return api.Expr{Op: api.ExprCompare, A: attribute(), Rel: pick(2), B: attribute()}
	}
	count := []int{len(p.Users), len(p.Roles), len(p.Types)}[sort]
	return api.Expr{Op: api.ExprIn, A: attribute(), Set: pick.set(0, count)}
}

// symbols picks the symbols of a policy: one or more of each kind, but of attributes, booleans and categories perhaps none.
func (pick picker) symbols(p *api.Policy) {
	for _, name := range pick.names("c", 1+pick(3)) {
		p.Classes = append(p.Classes, api.Class{Name: name, Perms: pick.names("p", 1+pick(5))})
	}
	p.Classes[0].Perms = pick.names("q", 32)
	count := 1 + pick(6)
	if pick.seldom(10) {
		count = api.MaxTypes
	}
	for _, name := range pick.names("t", count) {
		p.Types = append(p.Types, api.Type{Name: name, Aliases: pick.names("x"+strconv.Itoa(len(p.Types))+"_", max(0, pick(6)-3))})
	}
	for _, name := range pick.names("a", pick(4)) {
		p.Attrs = append(p.Attrs, api.Attr{Name: name, Types: pick.anySet(0, count)})
	}
	roles := 2 + pick(4)
	p.Roles = []api.Role{{Name: api.ObjectRole}}
	for _, name := range pick.names("r", roles-1) {
		p.Roles = append(p.Roles, api.Role{Name: name, Types: pick.anySet(0, count), Next: pick.anySet(1, roles)})
	}
	p.Sens, p.Cats = pick.names("s", 1+pick(3)), pick.names("k", []int{0, 1, 5, 64}[pick(4)])
	for _, name := range pick.names("u", 1+pick(3)) {
		levels := pick.levels(all(p))
		p.Users = append(p.Users, api.User{Name: name, Roles: pick.set(1, roles), Default: pick.levels(levels).Low, Range: levels})
	}
	if pick.seldom(20) {
		p.Users[len(p.Users)-1].Roles = api.Set{}
	}
	for _, name := range pick.names("b", pick(4)) {
		p.Bools = append(p.Bools, api.Bool{Name: name, Value: pick.seldom(2)})
	}
}

// context picks a valid context.
func (pick picker) context(p *api.Policy) api.Context {
	c := api.Context{User: pick(len(p.Users)), Role: pick(len(p.Roles)), Type: pick(len(p.Types))}
	u, r := p.Users[c.User], p.Roles[c.Role]
	if u.Roles[0]>>c.Role&1 == 1 && r.Types[c.Type/64]>>(c.Type%64)&1 == 1 {
		c.Range = pick.levels(u.Range)
	} else {
		c.Role, c.Range = 0, pick.levels(all(p))
	}
	return c
}

// rules picks rules, transitions and constraints.
func (pick picker) rules(p *api.Policy) {
	for range pick(5) * len(p.Bools) {
		e := pick.condition(len(p.Bools), api.MaxNest)
		if pick.seldom(8) || !slices.ContainsFunc(p.Conds, func(x api.Expr) bool { return same(x, e) }) {
			p.Conds = append(p.Conds, e)
		}
	}
	types, conds := len(p.Types), len(p.Conds)
	for range pick(8) {
		r := api.Rule{Kind: 1 + pick(4), Source: pick.set(0, types), Target: pick.anySet(0, types), Class: pick(len(p.Classes)), Cond: pick(2*conds+1) - conds}
		r.Self = r.Target == api.Set{} || pick.seldom(3)
		r.Perms = pick.vector(len(p.Classes[r.Class].Perms))
		if r.Kind == api.RuleNeverAllow {
			r.Cond = 0
		}
		p.Rules = append(p.Rules, r)
	}
	for range pick(5) {
		p.Trans = append(p.Trans, api.Trans{Kind: 1 + pick(3), Source: pick.set(0, types), Target: pick.set(0, types), Class: pick(len(p.Classes)), Result: pick(types), Cond: pick(2*conds+1) - conds})
	}
	for range pick(4) {
		p.RoleTrans = append(p.RoleTrans, api.RoleTrans{Roles: pick.set(1, len(p.Roles)), Types: pick.set(0, types), Class: pick(len(p.Classes)), Result: 1 + pick(len(p.Roles)-1)})
	}
	for range pick(5) {
		c := api.Constraint{Class: pick(len(p.Classes)), Validate: pick.seldom(2)}
		if c.Validate {
			c.Expr = pick.expression(p, 3, api.MaxNest)
		} else {
			c.Perms, c.Expr = pick.vector(len(p.Classes[c.Class].Perms)), pick.expression(p, 2, api.MaxNest)
		}
		p.Constraints = append(p.Constraints, c)
	}
	for _, name := range pick.names("i", pick(4)) {
		p.Sids = append(p.Sids, api.InitialSid{Name: name, Context: pick.context(p)})
	}
}

// additions picks the rest of a policy.
func (pick picker) additions(p *api.Policy) {
	types := len(p.Types)
	for i := range p.Types {
		p.Types[i].Permissive = pick.seldom(5)
	}
	for i := range p.Trans {
		if p.Trans[i].Kind == api.TransCreate && pick.seldom(2) {
			p.Trans[i].Name = []string{"log", "~!#;", strings.Repeat("%", api.MaxName)}[pick(3)]
		}
	}
	for range pick(3) {
		p.Ranges = append(p.Ranges, api.RangeTrans{Source: pick.set(0, types), Target: pick.set(0, types), Class: pick(len(p.Classes)), Range: pick.levels(all(p))})
	}
	for range pick(4) {
		p.Files = append(p.Files, api.FileRule{Pattern: []string{"/", "a b[~]*#;", strings.Repeat("/x", api.MaxPath/2)}[pick(3)], Kind: pick(5), Context: pick.context(p)})
	}
	for _, name := range pick.names("j", pick(4)) {
		p.Asserts = append(p.Asserts, api.Assert{Name: name, Kind: 1 + pick(3), Source: pick.set(0, types), Target: pick.set(0, types)})
	}
}

// policy picks a valid policy. Seldom a user has no roles, or two conditions are equal.
func (pick picker) policy(t *testing.T) api.Policy {
	t.Helper()
	var p api.Policy
	pick.symbols(&p)
	pick.rules(&p)
	pick.additions(&p)
	checkValid(t, p)
	return p
}
