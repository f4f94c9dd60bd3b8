package boolexp

import (
	"strings"

	"accesscontrol/api"
)

const (
	markNot   = "!"
	markOpen  = "("
	markClose = ")"
)

// How strongly operators bind, from the weakest one on. A name needs parentheses as little as ! does.
const (
	bindsOr = iota
	bindsXor
	bindsAnd
	bindsSame
	bindsNot
)

// Text returns it as it is written in a source, with as few parentheses as possible.
func Text(e api.Expr) (string, api.Errno) {
	if code := Check(e); code != api.OK {
		return "", code
	}
	var b strings.Builder
	write(&b, e, bindsOr)
	return b.String(), api.OK
}

// write writes a condition, in parentheses if it binds less strongly than the place where it stands requires.
func write(b *strings.Builder, e api.Expr, required int) {
	strength := binding(e.Op)
	switch {
	case strength < required:
		b.WriteString(markOpen)
		write(b, e, bindsOr)
		b.WriteString(markClose)
	case e.Op == api.ExprName:
		b.WriteString(e.Names[0])
	case e.Op == api.ExprNot:
		b.WriteString(markNot)
		write(b, e.Kids[0], strength)
	default:
		write(b, e.Kids[0], strength)
		b.WriteString(" " + mark(e.Op) + " ")
		write(b, e.Kids[1], strength+1) // a right operand that binds equally strongly would be grouped to the left
	}
}

// binding returns how strongly an operator of conditions binds.
func binding(op int) int {
	switch op {
	case api.ExprOr:
		return bindsOr
	case api.ExprXor:
		return bindsXor
	case api.ExprAnd:
		return bindsAnd
	case api.ExprSame, api.ExprDiffer:
		return bindsSame
	}
	return bindsNot
}

// mark returns the mark that stands between two operands.
func mark(op int) string {
	switch op {
	case api.ExprOr:
		return "||"
	case api.ExprXor:
		return "^"
	case api.ExprAnd:
		return "&&"
	case api.ExprSame:
		return "=="
	}
	return "!="
}
