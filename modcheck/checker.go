package modcheck

import (
	"slices"

	"accesscontrol/api"
)

// checker checks a statement whose structure is right; levels are on the scale.
type checker struct {
	stmt  *api.Stmt
	scale scale
}

// fault returns the first fault of the statement.
func (c checker) fault() api.Fault {
	for _, check := range c.checks() {
		if f := check(); f.Code != api.OK {
			return f
		}
	}
	return api.Fault{}
}

// checks returns the checks of the statement's kind, in their order.
func (c checker) checks() []func() api.Fault {
	switch c.stmt.Kind {
	case api.StmtClass:
		return []func() api.Fault{c.permissions}
	case api.StmtUser:
		return []func() api.Fault{c.rolesOfUser, c.levelsOfUser}
	case api.StmtRoleAllow:
		return []func() api.Fault{c.rolesOfAllow}
	case api.StmtRoleTrans:
		return []func() api.Fault{c.rolesOfTransition}
	case api.StmtRangeTrans:
		return []func() api.Fault{c.rangeOfTransition}
	case api.StmtSid, api.StmtFile:
		return []func() api.Fault{c.rangeOfContext}
	case api.StmtConstrain, api.StmtValidate:
		return []func() api.Fault{c.expression}
	}
	return nil
}

// reports returns a fault at the statement.
func (c checker) reports(code api.Errno, name string) api.Fault {
	return api.Fault{Code: code, Pos: c.stmt.Pos, Name: name}
}

func (c checker) permissions() api.Fault {
	l := c.stmt.List
	if len(l) > api.MaxPerms {
		return c.reports(api.ErrLong, "")
	}
	for i, name := range l {
		if slices.Contains(l[:i], name) {
			return c.reports(api.ErrTwice, name)
		}
	}
	return api.Fault{}
}

func (c checker) rolesOfUser() api.Fault {
	return c.processRoles(c.stmt.List)
}

func (c checker) rolesOfAllow() api.Fault {
	from, to := c.stmt.Source, c.stmt.Target
	return c.processRoles(from.Names, from.Except, to.Names, to.Except)
}

func (c checker) rolesOfTransition() api.Fault {
	from := c.stmt.Source
	return c.processRoles(from.Names, from.Except, []string{c.stmt.Result})
}

// processRoles returns the fault of lists of roles with the role of objects, which no process has.
func (c checker) processRoles(lists ...[]string) api.Fault {
	for _, l := range lists {
		if slices.Contains(l, api.ObjectRole) {
			return c.reports(api.ErrKind, api.ObjectRole)
		}
	}
	return api.Fault{}
}

func (c checker) levelsOfUser() api.Fault {
	l, r := c.stmt.Level, c.stmt.Range
	if c.scale.forbids(l) || c.scale.forbidsRange(r) || c.scale.excludes(l, r) {
		return c.reports(api.ErrLevel, "")
	}
	return api.Fault{}
}

func (c checker) rangeOfTransition() api.Fault {
	return c.validRange(c.stmt.Range)
}

func (c checker) rangeOfContext() api.Fault {
	return c.validRange(c.stmt.Context.Range)
}

func (c checker) validRange(r api.RangeText) api.Fault {
	if c.scale.forbidsRange(r) {
		return c.reports(api.ErrLevel, "")
	}
	return api.Fault{}
}

func (c checker) expression() api.Fault {
	if mixesSorts(&c.stmt.Cond) {
		return c.reports(api.ErrKind, "")
	}
	return api.Fault{}
}

// mixesSorts reports whether a node of an expression compares attributes that cannot be compared, or asks for the names of levels.
func mixesSorts(e *api.Expr) bool {
	sort := sortOf(e.A)
	switch e.Op {
	case api.ExprCompare:
		return sort != sortOf(e.B) || sort != api.AttrLow && e.Rel != api.RelSame && e.Rel != api.RelDiffer
	case api.ExprIn:
		return sort == api.AttrLow
	}
	for i := range e.Kids {
		if mixesSorts(&e.Kids[i]) {
			return true
		}
	}
	return false
}

// sortOf returns the sort of an attribute: AttrUser, AttrRole, AttrType, or AttrLow for both levels.
func sortOf(attribute int) int {
	return min(attribute%api.AttrsOfContext, api.AttrLow)
}
