// Package clone is no layer: copies of policies, for all that keeps, returns or changes a policy that it was given.
package clone

import (
	"slices"

	"accesscontrol/api"
)

// Policy returns a policy in memory of its own.
func Policy(p api.Policy) api.Policy {
	p.Classes = each(p.Classes, func(c *api.Class) { c.Perms = slices.Clone(c.Perms) })
	p.Types = each(p.Types, func(t *api.Type) { t.Aliases = slices.Clone(t.Aliases) })
	p.Attrs = slices.Clone(p.Attrs)
	p.Roles = slices.Clone(p.Roles)
	p.Users = slices.Clone(p.Users)
	p.Bools = slices.Clone(p.Bools)
	p.Sens = slices.Clone(p.Sens)
	p.Cats = slices.Clone(p.Cats)
	p.Conds = each(p.Conds, cloneInside)
	p.Rules = slices.Clone(p.Rules)
	p.Trans = slices.Clone(p.Trans)
	p.RoleTrans = slices.Clone(p.RoleTrans)
	p.Ranges = slices.Clone(p.Ranges)
	p.Constraints = each(p.Constraints, func(c *api.Constraint) { cloneInside(&c.Expr) })
	p.Sids = slices.Clone(p.Sids)
	p.Files = slices.Clone(p.Files)
	p.Asserts = slices.Clone(p.Asserts)
	return p
}

// each returns a list whose elements have copies of what is inside of them.
func each[T any](l []T, cloneInside func(*T)) []T {
	l = slices.Clone(l)
	for i := range l {
		cloneInside(&l[i])
	}
	return l
}

// cloneInside gives an expression copies of what is inside of it.
func cloneInside(e *api.Expr) {
	e.Names = slices.Clone(e.Names)
	e.Kids = each(e.Kids, cloneInside)
}
