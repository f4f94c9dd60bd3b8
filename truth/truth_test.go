package truth_test

import (
	"math"
	"testing"

	"accesscontrol/api"
	"accesscontrol/truth"
)

func number(n int) api.Expr { return api.Expr{Op: api.ExprName, A: n} }

func op(op int, kids ...api.Expr) api.Expr { return api.Expr{Op: op, Kids: kids} }

// value returns the value of an expression in the state n of so many booleans.
func value(e api.Expr, n, bools int) bool {
	return truth.Word(&e, n/truth.WordBits, bools)>>(n%truth.WordBits)&1 == 1
}

// Booleans have the bits of the numbers of states.
func TestBooleans(t *testing.T) {
	for _, bools := range []int{0, 1, 5, 6, 7, 12, api.MaxBools} {
		words := truth.Words(bools)
		if words != max(1, 1<<bools/64) {
			t.Errorf("%d booleans: got %d words", bools, words)
		}
		for i := range bools {
			for n := range words * truth.WordBits {
				if value(number(i), n, bools) != (n>>i&1 == 1) {
					t.Fatalf("the boolean %d in the state %d of %d", i, n, bools)
				}
			}
		}
	}
}

// Operators have their meaning.
func TestOperators(t *testing.T) {
	a, b := number(0), number(9)
	for _, x := range []struct {
		op   int
		want [4]bool // by a, and twice b
	}{
		{api.ExprAnd, [4]bool{false, false, false, true}},
		{api.ExprOr, [4]bool{false, true, true, true}},
		{api.ExprXor, [4]bool{false, true, true, false}},
		{api.ExprDiffer, [4]bool{false, true, true, false}},
		{api.ExprSame, [4]bool{true, false, false, true}},
	} {
		for i, want := range x.want {
			n := i&1 | i>>1<<9
			if value(op(x.op, a, b), n, 10) != want || value(op(api.ExprNot, op(x.op, a, b)), n, 10) == want {
				t.Errorf("the operator %d in the state %d", x.op, n)
			}
		}
	}
}

// What is no condition is false, also as an operand.
func TestNoCondition(t *testing.T) {
	deep := number(0)
	for range api.MaxNest - 1 {
		deep = op(api.ExprNot, deep)
	}
	if !value(deep, 0, 1) || value(deep, 1, 1) {
		t.Error("a condition with as many levels as there may be")
	}
	tooDeep := op(api.ExprAnd, deep, deep)
	for range 60000 {
		tooDeep = op(api.ExprAnd, tooDeep, tooDeep)
	}
	for _, e := range []api.Expr{
		{}, {Op: -1}, {Op: api.ExprCompare, Kids: []api.Expr{deep, deep}}, {Op: api.ExprIn}, {Op: math.MaxInt, Kids: []api.Expr{deep, deep}},
		number(1), number(-1), number(math.MinInt), number(math.MaxInt), op(api.ExprName, number(0)), op(api.ExprNot), op(api.ExprAnd, number(0)), op(api.ExprOr, number(0), number(0), number(0)), tooDeep,
	} {
		for n := range truth.WordBits {
			if value(e, n, 1) {
				t.Fatalf("%d is true in the state %d", e.Op, n)
			}
		}
	}
}
