package constraint

import (
	"slices"

	"accesscontrol/api"
	"accesscontrol/bitset"
	"accesscontrol/expression"
)

// Compile returns the expression of a policy for one of a source.
func Compile(e api.Expr, p api.Policy, validate bool) (api.Expr, api.Errno) {
	if expression.TooDeep(&e) {
		return api.Expr{}, api.ErrLong
	}
	return compiler{&p, expression.Attributes(validate)}.compile(&e)
}

// Source returns the expression of a source for one of a policy.
func Source(e api.Expr, p api.Policy) api.Expr {
	if Check(e, p, true) != api.OK {
		return api.Expr{}
	}
	return source(&e, &p)
}

// compiler compiles expressions of constraints that have so many attributes.
type compiler struct {
	policy     *api.Policy
	attributes int
}

// compile compiles an operator, and then its operands, so that the first error is found.
func (c compiler) compile(e *api.Expr) (api.Expr, api.Errno) {
	compiled, code := c.operator(e)
	if code != api.OK {
		return api.Expr{}, code
	}
	for i := range e.Kids {
		kid, code := c.compile(&e.Kids[i])
		if code != api.OK {
			return api.Expr{}, code
		}
		compiled.Kids = append(compiled.Kids, kid)
	}
	return compiled, api.OK
}

// operator compiles an operator without its operands.
func (c compiler) operator(e *api.Expr) (api.Expr, api.Errno) {
	if e.Op == api.ExprIn {
		return c.membership(e)
	}
	return api.Expr{Op: e.Op, A: e.A, Rel: e.Rel, B: e.B}, expression.Operator(e, c.attributes)
}

func (c compiler) membership(e *api.Expr) (api.Expr, api.Errno) {
	if len(e.Names) == 0 || e.Set != (api.Set{}) {
		return api.Expr{}, api.ErrArg
	}
	unnamed := *e
	unnamed.Names = nil
	if code := expression.Operator(&unnamed, c.attributes); code != api.OK {
		return api.Expr{}, code
	}
	set, ok := meaning(e.Names, c.policy, expression.SortOf(e.A))
	switch {
	case !ok:
		return api.Expr{}, api.ErrNone
	case set == api.Set{}: // Check refuses an empty set; the comparison never holds either
		return api.Expr{Op: api.ExprCompare, A: e.A, Rel: api.RelDiffer, B: e.A}, api.OK
	}
	return api.Expr{Op: api.ExprIn, A: e.A, Set: set}, api.OK
}

// meaning returns the numbers of the users, of the roles or of the types that names mean; false if one of them means nothing.
func meaning(names []string, p *api.Policy, sort int) (api.Set, bool) {
	symbols := namesOf(p, sort)
	var s api.Set
	for _, name := range names {
		n := slices.Index(symbols, name)
		found, ok := bitset.Of(n), n >= 0
		if !ok && sort == api.AttrType {
			found, ok = aliasOrAttribute(name, p)
		}
		if !ok {
			return api.Set{}, false
		}
		s = bitset.Union(s, found)
	}
	return s, true
}

// aliasOrAttribute returns the type with an alias, or the types of an attribute.
func aliasOrAttribute(name string, p *api.Policy) (api.Set, bool) {
	if n := slices.IndexFunc(p.Types, func(t api.Type) bool { return slices.Contains(t.Aliases, name) }); n >= 0 {
		return bitset.Of(n), true
	}
	n := slices.IndexFunc(p.Attrs, func(a api.Attr) bool { return a.Name == name })
	if n < 0 {
		return api.Set{}, false
	}
	return p.Attrs[n].Types, true
}

// namesOf returns the names of the users, of the roles, or of the types.
func namesOf(p *api.Policy, sort int) []string {
	var names []string
	switch sort {
	case api.AttrUser:
		for i := range p.Users {
			names = append(names, p.Users[i].Name)
		}
	case api.AttrRole:
		for i := range p.Roles {
			names = append(names, p.Roles[i].Name)
		}
	default:
		for i := range p.Types {
			names = append(names, p.Types[i].Name)
		}
	}
	return names
}

// source returns the expression of a source for one that Check accepts.
func source(e *api.Expr, p *api.Policy) api.Expr {
	s := api.Expr{Op: e.Op, A: e.A, Rel: e.Rel, B: e.B}
	if e.Op == api.ExprIn {
		names := namesOf(p, expression.SortOf(e.A))
		for _, n := range bitset.List(e.Set) {
			s.Names = append(s.Names, names[n])
		}
	}
	for i := range e.Kids {
		s.Kids = append(s.Kids, source(&e.Kids[i], p))
	}
	return s
}
