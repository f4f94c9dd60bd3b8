// Package truth is no layer: in which states of booleans the conditions of policies are true, for conflict and optimizer.
package truth

import (
	"accesscontrol/api"
)

// WordBits is how many states a word has: the word i has a bit for each state from 64 * i on. The state n has the bit i of n as the value of the boolean i.
const WordBits = 64

// patterns are the values of the first booleans in the states of a word.
var patterns = [6]uint64{0xaaaaaaaaaaaaaaaa, 0xcccccccccccccccc, 0xf0f0f0f0f0f0f0f0, 0xff00ff00ff00ff00, 0xffff0000ffff0000, 0xffffffff00000000}

// Words returns how many words the states of so many booleans have; with few of them, their states are repeated within the only word.
func Words(bools int) int {
	return max(1, 1<<bools/WordBits)
}

// Word returns those of a word of states of so many booleans in which an expression is true. What is no condition is false, also as an operand.
func Word(e *api.Expr, word, bools int) uint64 {
	return value(e, word, bools, api.MaxNest)
}

// value returns the values of an expression of at most so many levels.
func value(e *api.Expr, word, bools, levels int) uint64 {
	if levels == 0 || len(e.Kids) != operands(e.Op) {
		return 0
	}
	var x [2]uint64
	for i := range e.Kids {
		x[i] = value(&e.Kids[i], word, bools, levels-1)
	}
	switch e.Op {
	case api.ExprName:
		return boolean(e.A, word, bools)
	case api.ExprNot:
		return ^x[0]
	case api.ExprAnd:
		return x[0] & x[1]
	case api.ExprOr:
		return x[0] | x[1]
	case api.ExprXor, api.ExprDiffer:
		return x[0] ^ x[1]
	case api.ExprSame:
		return ^(x[0] ^ x[1])
	}
	return 0
}

// operands returns how many operands an operator of conditions has.
func operands(op int) int {
	switch op {
	case api.ExprName:
		return 0
	case api.ExprNot:
		return 1
	}
	return 2
}

// boolean returns the values of a boolean. The first six have the same values in each word, the others one value in a word.
func boolean(n, word, bools int) uint64 {
	switch {
	case n < 0 || n >= bools:
		return 0
	case n < len(patterns):
		return patterns[n]
	case word>>(n-len(patterns))&1 == 1:
		return ^uint64(0)
	}
	return 0
}
