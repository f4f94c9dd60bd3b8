package optimizer

import (
	"slices"

	"accesscontrol/api"
)

// copied returns a policy in memory of its own.
func copied(p api.Policy) api.Policy {
	p.Classes = copiedEach(p.Classes, func(c *api.Class) { c.Perms = slices.Clone(c.Perms) })
	p.Types = copiedEach(p.Types, func(t *api.Type) { t.Aliases = slices.Clone(t.Aliases) })
	p.Attrs = slices.Clone(p.Attrs)
	p.Roles = slices.Clone(p.Roles)
	p.Users = slices.Clone(p.Users)
	p.Bools = slices.Clone(p.Bools)
	p.Sens = slices.Clone(p.Sens)
	p.Cats = slices.Clone(p.Cats)
	p.Conds = copiedEach(p.Conds, copyInside)
	p.Rules = slices.Clone(p.Rules)
	p.Trans = slices.Clone(p.Trans)
	p.RoleTrans = slices.Clone(p.RoleTrans)
	p.Ranges = slices.Clone(p.Ranges)
	p.Constraints = copiedEach(p.Constraints, func(c *api.Constraint) { copyInside(&c.Expr) })
	p.Sids = slices.Clone(p.Sids)
	p.Files = slices.Clone(p.Files)
	p.Asserts = slices.Clone(p.Asserts)
	return p
}

// copiedEach returns a list whose elements have copies of what is inside of them.
func copiedEach[T any](l []T, copyInside func(*T)) []T {
	l = slices.Clone(l)
	for i := range l {
		copyInside(&l[i])
	}
	return l
}

// copyInside gives an expression copies of what is inside of it.
func copyInside(e *api.Expr) {
	e.Names = slices.Clone(e.Names)
	e.Kids = copiedEach(e.Kids, copyInside)
}
