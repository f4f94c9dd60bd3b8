package binary

import (
	"accesscontrol/api"
)

// expression codes an expression of a condition or of a constraint. Which operators may stand in them is no matter of the format.
func expression(c coder, x *api.Expr) {
	node(c, x, 1)
}

// node codes an expression at a level.
func node(c coder, x *api.Expr, level int) {
	c.operator(&x.Op, level)
	switch x.Op {
	case api.ExprName:
		c.number(&x.A)
	case api.ExprCompare:
		c.number(&x.A)
		c.number(&x.Rel)
		c.number(&x.B)
	case api.ExprIn:
		c.number(&x.A)
		c.set(&x.Set)
	default:
		elements(c, &x.Kids, operands(x.Op), func(c coder, kid *api.Expr) { node(c, kid, level+1) })
	}
}

// operands returns how many operands an operator has.
func operands(op int) int {
	if op == api.ExprNot {
		return 1
	}
	return 2
}
