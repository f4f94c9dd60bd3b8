package condition

import (
	"accesscontrol/api"
	"accesscontrol/expression"
)

// isActive reports whether something with a Cond is active where so many conditions have these values.
func isActive(cond, count int, value func(int) bool) bool {
	switch {
	case cond == 0:
		return true
	case 0 < cond && cond <= count:
		return value(cond - 1)
	case -count <= cond && cond < 0:
		return !value(-cond - 1)
	}
	return false
}

// valueOf returns the value of the condition n in a state; false if a valid policy cannot have the condition.
func valueOf(p *api.Policy, n int, state []bool) bool {
	return isCondition(&p.Conds[n], p) && evaluate(&p.Conds[n], state)
}

// isCondition reports whether a valid policy can have a condition.
func isCondition(e *api.Expr, p *api.Policy) bool {
	return expression.Condition(e, len(p.Bools)) == api.OK
}

// evaluate returns the value in a state of a condition that a valid policy can have.
func evaluate(e *api.Expr, state []bool) bool {
	operand := func(i int) bool { return evaluate(&e.Kids[i], state) }
	same := false
	switch e.Op {
	case api.ExprName:
		return e.A < len(state) && state[e.A]
	case api.ExprNot:
		return !operand(0)
	case api.ExprAnd:
		return operand(0) && operand(1)
	case api.ExprOr:
		return operand(0) || operand(1)
	case api.ExprSame:
		same = true
		fallthrough
	default: // ExprXor and ExprDiffer
		return (operand(0) == operand(1)) == same
	}
}
