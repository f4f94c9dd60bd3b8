package linker

import (
	"accesscontrol/api"
	"accesscontrol/bitset"
)

// levels is the sort of the attributes that are levels.
const levels = api.AttrLow

// sortOf returns the sort of an attribute: AttrUser, AttrRole, AttrType or levels.
func sortOf(attribute int) int {
	return min(attribute%api.AttrsOfContext, levels)
}

func (c checker) conditions() api.Errno {
	return each(c.p.Conds, api.MaxConds, func(e *api.Expr) api.Errno {
		if hasMoreLevels(e, api.MaxNest) {
			return api.ErrLong
		}
		return firstError(e, c.conditionNode)
	})
}

// expression returns the error of the expression of a constraint.
func (c checker) expression(e *api.Expr, validate bool) api.Errno {
	contexts := 2
	if validate {
		contexts = 3
	}
	if hasMoreLevels(e, api.MaxNest) {
		return api.ErrLong
	}
	return firstError(e, func(node *api.Expr) api.Errno { return c.constraintNode(node, contexts*api.AttrsOfContext) })
}

// hasMoreLevels reports whether an expression has more than so many levels.
func hasMoreLevels(e *api.Expr, most int) bool {
	if most == 0 {
		return true
	}
	for i := range e.Kids {
		if hasMoreLevels(&e.Kids[i], most-1) {
			return true
		}
	}
	return false
}

// firstError returns the first error of an operator, or of one in its operands, which stand behind it.
func firstError(e *api.Expr, errorOf func(*api.Expr) api.Errno) api.Errno {
	if code := errorOf(e); code != api.OK {
		return code
	}
	for i := range e.Kids {
		if code := firstError(&e.Kids[i], errorOf); code != api.OK {
			return code
		}
	}
	return api.OK
}

func (c checker) conditionNode(e *api.Expr) api.Errno {
	kids, rest := 2, *e // rest loses the fields that the operator has
	switch e.Op {
	case api.ExprName:
		kids, rest.A = 0, 0
	case api.ExprNot:
		kids = 1
	case api.ExprAnd, api.ExprOr, api.ExprXor, api.ExprSame, api.ExprDiffer:
	default:
		return api.ErrArg
	}
	switch {
	case len(e.Kids) != kids || hasFields(&rest):
		return api.ErrArg
	case e.Op == api.ExprName && (e.A < 0 || e.A >= len(c.p.Bools)):
		return api.ErrRange
	}
	return api.OK
}

// hasFields reports whether an expression has something besides its operator and operands.
func hasFields(e *api.Expr) bool {
	return e.A != 0 || e.Rel != 0 || e.B != 0 || len(e.Names) > 0 || !isEmpty(e.Set)
}

// constraintNode returns the error of an operator that may have so many attributes.
func (c checker) constraintNode(e *api.Expr, attributes int) api.Errno {
	kids, rest := 0, *e // rest loses the fields that the operator has
	switch e.Op {
	case api.ExprNot:
		kids = 1
	case api.ExprAnd, api.ExprOr:
		kids = 2
	case api.ExprCompare:
		rest.A, rest.Rel, rest.B = 0, 0, 0
	case api.ExprIn:
		rest.A, rest.Set = 0, api.Set{}
	default:
		return api.ErrArg
	}
	switch {
	case len(e.Kids) != kids || hasFields(&rest):
		return api.ErrArg
	case e.Op == api.ExprCompare:
		return comparisonError(e, attributes)
	case e.Op == api.ExprIn:
		return c.membershipError(e, attributes)
	}
	return api.OK
}

func comparisonError(e *api.Expr, attributes int) api.Errno {
	switch {
	case e.A < 0 || e.A >= attributes || e.B < 0 || e.B >= attributes || e.Rel < api.RelSame || e.Rel > api.RelIncomparable:
		return api.ErrRange
	case sortOf(e.A) != sortOf(e.B) || sortOf(e.A) != levels && e.Rel > api.RelDiffer:
		return api.ErrKind
	}
	return api.OK
}

func (c checker) membershipError(e *api.Expr, attributes int) api.Errno {
	switch {
	case e.A < 0 || e.A >= attributes:
		return api.ErrRange
	case sortOf(e.A) == levels:
		return api.ErrKind
	case !bitset.Within(e.Set, bitset.All(c.countOf(sortOf(e.A)))):
		return api.ErrRange
	case isEmpty(e.Set):
		return api.ErrArg
	}
	return api.OK
}

// countOf returns how many users, roles or types there are.
func (c checker) countOf(sort int) int {
	switch sort {
	case api.AttrUser:
		return len(c.p.Users)
	case api.AttrRole:
		return len(c.p.Roles)
	}
	return len(c.p.Types)
}
