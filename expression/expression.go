// Package expression is no layer: it checks the expressions of policies, for linker, constraint and condition.
package expression

import (
	"accesscontrol/api"
	"accesscontrol/bitset"
)

// Levels is the sort of the attributes that are levels.
const Levels = api.AttrLow

// SortOf returns the sort of an attribute: AttrUser, AttrRole, AttrType or Levels.
func SortOf(attribute int) int {
	return min(attribute%api.AttrsOfContext, Levels)
}

// Attributes returns how many attributes constraints have: those of two contexts, or, if they are about changes, of three.
func Attributes(validate bool) int {
	if validate {
		return 3 * api.AttrsOfContext
	}
	return 2 * api.AttrsOfContext
}

// TooDeep reports whether an expression has more than MaxNest levels.
func TooDeep(e *api.Expr) bool {
	return hasMoreLevels(e, api.MaxNest)
}

func hasMoreLevels(e *api.Expr, most int) bool {
	if most == 0 {
		return true
	}
	for i := range e.Kids {
		if hasMoreLevels(&e.Kids[i], most-1) {
			return true
		}
	}
	return false
}

// Check returns ErrLong for an expression that is too deep, and otherwise the first error of an operator, or of one in its operands, which stand behind it.
func Check(e *api.Expr, errorOf func(*api.Expr) api.Errno) api.Errno {
	if TooDeep(e) {
		return api.ErrLong
	}
	return firstError(e, errorOf)
}

func firstError(e *api.Expr, errorOf func(*api.Expr) api.Errno) api.Errno {
	if code := errorOf(e); code != api.OK {
		return code
	}
	for i := range e.Kids {
		if code := firstError(&e.Kids[i], errorOf); code != api.OK {
			return code
		}
	}
	return api.OK
}

// Condition returns the error of a condition of a policy with so many booleans.
func Condition(e *api.Expr, bools int) api.Errno {
	return Check(e, func(node *api.Expr) api.Errno { return conditionNode(node, bools) })
}

func conditionNode(e *api.Expr, bools int) api.Errno {
	kids, rest := 2, *e // rest loses the fields that the operator has
	switch e.Op {
	case api.ExprName:
		kids, rest.A = 0, 0
	case api.ExprNot:
		kids = 1
	case api.ExprAnd, api.ExprOr, api.ExprXor, api.ExprSame, api.ExprDiffer:
	default:
		return api.ErrArg
	}
	switch {
	case len(e.Kids) != kids || hasFields(&rest):
		return api.ErrArg
	case e.Op == api.ExprName && (e.A < 0 || e.A >= bools):
		return api.ErrRange
	}
	return api.OK
}

// hasFields reports whether an expression has something besides its operator and operands.
func hasFields(e *api.Expr) bool {
	return e.A != 0 || e.Rel != 0 || e.B != 0 || len(e.Names) > 0 || e.Set != api.Set{}
}

// Constraint returns the error of an expression of a constraint of a policy.
func Constraint(e *api.Expr, p *api.Policy, validate bool) api.Errno {
	attributes := Attributes(validate)
	return Check(e, func(node *api.Expr) api.Errno {
		if code := Operator(node, attributes); code != api.OK || node.Op != api.ExprIn {
			return code
		}
		return setError(node, p)
	})
}

// Operator returns the error of an operator of a constraint that has so many attributes, whatever its Set and its operands are.
func Operator(e *api.Expr, attributes int) api.Errno {
	kids, rest := 0, *e // rest loses the fields that the operator has
	switch e.Op {
	case api.ExprNot:
		kids = 1
	case api.ExprAnd, api.ExprOr:
		kids = 2
	case api.ExprCompare:
		rest.A, rest.Rel, rest.B = 0, 0, 0
	case api.ExprIn:
		rest.A, rest.Set = 0, api.Set{}
	default:
		return api.ErrArg
	}
	switch {
	case len(e.Kids) != kids || hasFields(&rest):
		return api.ErrArg
	case e.Op == api.ExprCompare:
		return comparisonError(e, attributes)
	case e.Op == api.ExprIn:
		return membershipError(e, attributes)
	}
	return api.OK
}

func comparisonError(e *api.Expr, attributes int) api.Errno {
	switch {
	case e.A < 0 || e.A >= attributes || e.B < 0 || e.B >= attributes || e.Rel < api.RelSame || e.Rel > api.RelIncomparable:
		return api.ErrRange
	case SortOf(e.A) != SortOf(e.B) || SortOf(e.A) != Levels && e.Rel > api.RelDiffer:
		return api.ErrKind
	}
	return api.OK
}

func membershipError(e *api.Expr, attributes int) api.Errno {
	switch {
	case e.A < 0 || e.A >= attributes:
		return api.ErrRange
	case SortOf(e.A) == Levels:
		return api.ErrKind
	}
	return api.OK
}

// setError returns the error of the set with which an attribute is compared.
func setError(e *api.Expr, p *api.Policy) api.Errno {
	switch {
	case !bitset.Within(e.Set, bitset.All(countOf(p, SortOf(e.A)))):
		return api.ErrRange
	case e.Set == api.Set{}:
		return api.ErrArg
	}
	return api.OK
}

// countOf returns how many users, roles or types there are.
func countOf(p *api.Policy, sort int) int {
	switch sort {
	case api.AttrUser:
		return len(p.Users)
	case api.AttrRole:
		return len(p.Roles)
	}
	return len(p.Types)
}
