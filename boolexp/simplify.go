package boolexp

import (
	"slices"

	"accesscontrol/api"
)

// Simplify returns a condition with the same values, without constant and double parts.
func Simplify(e api.Expr) (api.Expr, api.Errno) {
	if code := Check(e); code != api.OK {
		return api.Expr{}, code
	}
	columns, code := columnsOf(Names(e))
	if code != api.OK {
		return api.Expr{}, code
	}
	return simplify(e, columns).expr, api.OK
}

// known is a condition with its values.
type known struct {
	expr   api.Expr
	values table
}

// simplify returns a condition, and simplified kids, in memory of its own.
func simplify(e api.Expr, columns map[string]table) known {
	if e.Op == api.ExprName {
		return known{clone(e), columns[e.Names[0]]}
	}
	var kids []known
	var operands []table
	for _, kid := range e.Kids {
		k := simplify(kid, columns)
		kids = append(kids, k)
		operands = append(operands, k.values)
	}
	values := combine(e.Op, operands)
	if e.Op == api.ExprNot {
		return known{Negate(kids[0].expr), values}
	}
	return known{join(e.Op, kids[0], kids[1]), values}
}

// join returns what an operator between two simplified kids is simplified to.
func join(op int, x, y known) api.Expr {
	// An operand that always has this value has no effect. One that always has the other value decides alone (ExprAnd, ExprOr), or inverts the other operand.
	noEffect := op == api.ExprAnd || op == api.ExprSame
	decides := op == api.ExprAnd || op == api.ExprOr
	switch {
	case x.values.always(noEffect):
		return y.expr
	case y.values.always(noEffect):
		return x.expr
	case decides && x.values.always(!noEffect):
		return x.expr
	case decides && y.values.always(!noEffect):
		return y.expr
	case decides && slices.Equal(x.values, y.values):
		return x.expr
	case !decides && x.values.always(!noEffect):
		return Negate(y.expr)
	case !decides && y.values.always(!noEffect):
		return Negate(x.expr)
	}
	return api.Expr{Op: op, Kids: []api.Expr{x.expr, y.expr}}
}
