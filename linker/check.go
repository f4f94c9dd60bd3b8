package linker

import (
	"accesscontrol/api"
	"accesscontrol/bitset"
	"accesscontrol/expression"
	"accesscontrol/level"
)

// objectRole is the number of the role of objects.
const objectRole = 0

// checker checks a policy.
type checker struct{ p *api.Policy }

// check returns the first error, in the order of the lists. A number is looked at when the list of what it numbers has no error.
func (c checker) check() api.Errno {
	for _, list := range []func() api.Errno{
		c.classes, c.typesAndAttributes, c.roles, c.users, c.bools, c.sensitivities, c.categories, c.conditions, c.rules,
		c.transitions, c.roleTransitions, c.rangeTransitions, c.constraints, c.initialSids, c.fileRules, c.assertions,
	} {
		if code := list(); code != api.OK {
			return code
		}
	}
	return api.OK
}

// each returns ErrLong for a list that is longer than its limit, and otherwise the first error of an element.
func each[T any](l []T, limit int, errorOf func(*T) api.Errno) api.Errno {
	if len(l) > limit {
		return api.ErrLong
	}
	for i := range l {
		if code := errorOf(&l[i]); code != api.OK {
			return code
		}
	}
	return api.OK
}

// unless returns an error where something does not hold.
func unless(holds bool, code api.Errno) api.Errno {
	if holds {
		return api.OK
	}
	return code
}

func (c checker) classes() api.Errno {
	names := space{}
	return each(c.p.Classes, api.MaxClasses, func(x *api.Class) api.Errno {
		if code := names.add(x.Name); code != api.OK {
			return code
		}
		return permsError(x.Perms)
	})
}

// typesAndAttributes checks two lists, which share a name space.
func (c checker) typesAndAttributes() api.Errno {
	names := space{}
	code := each(c.p.Types, api.MaxTypes, func(x *api.Type) api.Errno {
		if code := names.add(x.Name); code != api.OK {
			return code
		}
		return names.add(x.Aliases...)
	})
	if code != api.OK {
		return code
	}
	return each(c.p.Attrs, api.MaxAttrs, func(x *api.Attr) api.Errno {
		if code := names.add(x.Name); code != api.OK {
			return code
		}
		return unless(c.hasTypes(x.Types), api.ErrRange)
	})
}

// roles checks the first role by itself: it has a name that is no other role's.
func (c checker) roles() api.Errno {
	l := c.p.Roles
	switch {
	case len(l) > api.MaxRoles:
		return api.ErrLong
	case len(l) == 0 || l[objectRole] != api.Role{Name: api.ObjectRole}:
		return api.ErrArg
	}
	names := space{api.ObjectRole: true}
	return each(l[objectRole+1:], api.MaxRoles, func(x *api.Role) api.Errno {
		if code := names.add(x.Name); code != api.OK {
			return code
		}
		return unless(c.hasTypes(x.Types) && c.hasProcessRoles(x.Next), api.ErrRange)
	})
}

func (c checker) users() api.Errno {
	names := space{}
	return each(c.p.Users, api.MaxUsers, func(x *api.User) api.Errno {
		if code := names.add(x.Name); code != api.OK {
			return code
		}
		if !c.hasProcessRoles(x.Roles) {
			return api.ErrRange
		}
		return unless(c.hasRange(x.Range) && containsLevel(x.Range, x.Default), api.ErrLevel)
	})
}

func (c checker) bools() api.Errno {
	names := space{}
	return each(c.p.Bools, api.MaxBools, func(x *api.Bool) api.Errno { return names.add(x.Name) })
}

func (c checker) sensitivities() api.Errno {
	names := space{}
	return each(c.p.Sens, api.MaxSens, func(name *string) api.Errno { return names.add(*name) })
}

func (c checker) categories() api.Errno {
	names := space{}
	return each(c.p.Cats, api.MaxCats, func(name *string) api.Errno { return names.add(*name) })
}

func (c checker) conditions() api.Errno {
	return each(c.p.Conds, api.MaxConds, func(e *api.Expr) api.Errno { return expression.Condition(e, len(c.p.Bools)) })
}

// context returns the error of a context.
func (c checker) context(x api.Context) api.Errno {
	switch {
	case x.User < 0 || x.User >= len(c.p.Users) || x.Role < 0 || x.Role >= len(c.p.Roles) || !c.hasType(x.Type):
		return api.ErrRange
	case !c.hasRange(x.Range):
		return api.ErrLevel
	case x.Role == objectRole:
		return api.OK
	}
	user, role := &c.p.Users[x.User], &c.p.Roles[x.Role]
	return unless(bitset.Has(user.Roles, x.Role) && bitset.Has(role.Types, x.Type) && level.Contains(user.Range, x.Range), api.ErrContext)
}

func (c checker) hasType(n int) bool { return 0 <= n && n < len(c.p.Types) }

func (c checker) hasTypes(s api.Set) bool { return bitset.Within(s, bitset.All(len(c.p.Types))) }

func (c checker) hasProcessRole(n int) bool { return objectRole < n && n < len(c.p.Roles) }

func (c checker) hasProcessRoles(s api.Set) bool {
	return bitset.Within(s, bitset.Without(bitset.All(len(c.p.Roles)), objectRole))
}

func (c checker) hasClass(n int) bool { return 0 <= n && n < len(c.p.Classes) }

// hasPerms reports whether a class exists and has all of these permissions.
func (c checker) hasPerms(class int, perms uint32) bool {
	return c.hasClass(class) && perms>>len(c.p.Classes[class].Perms) == 0
}

func (c checker) hasCond(n int) bool { return -len(c.p.Conds) <= n && n <= len(c.p.Conds) }

func (c checker) hasRange(r api.Range) bool { return level.CheckRange(r, len(c.p.Sens), len(c.p.Cats)) }

func containsLevel(r api.Range, l api.Level) bool {
	return level.Contains(r, api.Range{Low: l, High: l})
}

func isEmpty(s api.Set) bool { return s == api.Set{} }
