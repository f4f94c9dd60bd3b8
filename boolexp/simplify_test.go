package boolexp_test

import (
	"testing"

	"accesscontrol/api"
	"accesscontrol/boolexp"
)

// simplest is the definition of Simplify, for conditions with at most MaxBools names.
func simplest(e api.Expr) api.Expr {
	if e.Op == api.ExprName {
		return e
	}
	x := simplest(e.Kids[0])
	if e.Op == api.ExprNot {
		if x.Op == api.ExprNot {
			return x.Kids[0]
		}
		return not(x)
	}
	y := simplest(e.Kids[1])
	for _, rule := range rulesOf(e.Op) {
		if rule.holds(x, y) {
			return rule.result(x, y)
		}
	}
	return binary(e.Op, x, y)
}

type rule struct {
	holds  func(x, y api.Expr) bool
	result func(x, y api.Expr) api.Expr
}

func isAlways(e api.Expr, want bool) bool {
	v, ok := boolexp.Constant(e)
	return ok && v == want
}

// rulesOf are the rules of the chapter for an operator.
func rulesOf(op int) []rule {
	xTrue := func(x, y api.Expr) bool { return isAlways(x, true) }
	yTrue := func(x, y api.Expr) bool { return isAlways(y, true) }
	xFalse := func(x, y api.Expr) bool { return isAlways(x, false) }
	yFalse := func(x, y api.Expr) bool { return isAlways(y, false) }
	equal := func(x, y api.Expr) bool { v, _ := boolexp.Equal(x, y); return v }
	x := func(x, y api.Expr) api.Expr { return x }
	y := func(x, y api.Expr) api.Expr { return y }
	notX := func(x, y api.Expr) api.Expr { return boolexp.Negate(x) }
	notY := func(x, y api.Expr) api.Expr { return boolexp.Negate(y) }
	switch op {
	case api.ExprAnd:
		return []rule{{xTrue, y}, {yTrue, x}, {xFalse, x}, {yFalse, y}, {equal, x}}
	case api.ExprOr:
		return []rule{{xFalse, y}, {yFalse, x}, {xTrue, x}, {yTrue, y}, {equal, x}}
	case api.ExprSame:
		return []rule{{xTrue, y}, {yTrue, x}, {xFalse, notY}, {yFalse, notX}}
	}
	return []rule{{xFalse, y}, {yFalse, x}, {xTrue, notY}, {yTrue, notX}}
}

// constants are conditions that are always true, or always false, of several shapes.
func constants() []api.Expr {
	a, b := name("a"), name("b")
	return []api.Expr{or(a, not(a)), and(a, not(a)), same(b, b), xor(b, b), differ(a, a), not(or(b, not(b))), not(and(b, not(b))), and(a, and(b, not(a))), or(or(a, b), not(b))}
}

// operands are conditions with and without constants.
func operands() []api.Expr {
	l := append(allOf(2, "a", "b"), constants()...)
	for _, c := range constants() {
		l = append(l, not(not(c)), and(name("c"), c), or(c, name("c")), xor(name("c"), c), same(c, not(name("c"))), differ(c, xor(name("b"), name("c"))))
	}
	return append(l, not(not(name("a"))), not(not(not(name("a")))), and(name("b"), name("a")), or(name("c"), name("d")), not(and(not(name("a")), not(name("b")))))
}

// P6.6: Simplify, by the rules.
func TestSimplify(t *testing.T) {
	l := samples()
	for _, op := range binaries() {
		for _, x := range operands() {
			for _, y := range operands() {
				l = append(l, binary(op, x, y))
			}
		}
	}
	for _, e := range l {
		got, code := boolexp.Simplify(e)
		if want := simplest(e); !equalExpr(got, want) || code != api.OK {
			t.Errorf("Simplify(%.200s): got %.200s, %v, want %.200s", show(e), show(got), code, show(want))
		}
	}
}

// P6.6: the examples of the chapter, and each rule.
func TestSimplifyTexts(t *testing.T) {
	for s, want := range map[string]string{
		"a": "a", "!a": "!a", "!!a": "a", "!!!a": "!a", "!(a ^ (b && !b))": "!a", "!(a != (b || !b))": "a",
		"b && (a || !a)": "b", "(a || !a) && b": "b", "a && !a": "a && !a", "b && (a && !a)": "a && !a", "a && !a && b": "a && !a", "a && a": "a", "!!a && a": "a", "(a || b) && (b || a)": "a || b",
		"a || a && !a": "a", "a && !a || a": "a", "b || (a || !a)": "a || !a", "a || !a || b": "a || !a", "b || !!b": "b",
		"a ^ (b && !b)": "a", "b && !b ^ a": "a", "a ^ (b || !b)": "!a", "(b || !b) ^ !a": "a", "a ^ a": "a ^ a", "a ^ b": "a ^ b",
		"a != (b && !b)": "a", "(b && !b) != a": "a", "!a != (b || !b)": "a", "(b || !b) != a": "!a", "a != a": "a != a",
		"a == (b || !b)": "a", "(b || !b) == a": "a", "a == (b && !b)": "!a", "(b && !b) == !a": "a", "a == a": "a == a", "(a == a) == b": "b",
		"(a || !a) && (b || !b)": "b || !b", "a && !a && (b && !b)": "a && !a", "a || !a || (b || !b)": "a || !a", "(a || !a) ^ (b || !b)": "!(b || !b)", "(a && !a) == (b && !b)": "!(b && !b)",
		"(a == a) && b || c && (d ^ d)": "b", "a || b && a || b": "a || b && a || b",
	} {
		got, code := boolexp.Simplify(parsed(t, s))
		if text, _ := boolexp.Text(got); text != want || code != api.OK {
			t.Errorf("Simplify(%q): got %q, %v, want %q", s, text, code, want)
		}
	}
}

// P6.6: the result has the same values, at most as many names and levels, and does not change any more.
func TestSimplifyLaws(t *testing.T) {
	l := append(samples(), operands()...)
	for seed := range 300 {
		l = append(l, picked(picker(seed), 8, numbered("b", 1+seed%16)))
	}
	for _, e := range l {
		got, code := boolexp.Simplify(e)
		if code != api.OK {
			t.Fatalf("Simplify(%.200s): got %v", show(e), code)
		}
		checkEqual(t, got, e, true, api.OK)
		if levels(got) > levels(e) || len(namesOf(got)) > len(namesOf(e)) || len(namesOf(got, e)) > len(namesOf(e)) {
			t.Errorf("Simplify(%.200s): got %.200s", show(e), show(got))
		}
		if again, code := boolexp.Simplify(got); !equalExpr(again, got) || code != api.OK {
			t.Errorf("Simplify(%.200s) again: got %.200s, %v", show(got), show(again), code)
		}
		checkMemory(t, got, e)
	}
}

// P6.6: the errors, in their order.
func TestSimplifyErrors(t *testing.T) {
	check := func(e api.Expr, want api.Errno) {
		t.Helper()
		if got, code := boolexp.Simplify(e); code != want || !equalExpr(got, api.Expr{}) {
			t.Errorf("Simplify(%.200s): got %.200s, %v, want %v", show(e), show(got), code, want)
		}
	}
	for _, x := range wrong() {
		check(x.e, x.code)
		check(not(not(x.e)), x.code)
		check(and(and(name("a"), not(name("a"))), x.e), x.code)
		check(and(conjunction(numbered("b", 17)), x.e), x.code)
	}
	many := conjunction(numbered("b", 17))
	check(many, api.ErrLong)
	check(and(name("b0"), many), api.ErrLong)
	check(xor(many, many), api.ErrLong)
	check(or(conjunction(numbered("b", 16)), name("c")), api.ErrLong)
}

// P6.6: conditions at the limits: MaxBools names and MaxNest levels.
func TestSimplifyLarge(t *testing.T) {
	names := numbered("b", api.MaxBools)
	for _, op := range binaries() {
		e := tree(op, api.MaxNest, names)
		got, code := boolexp.Simplify(e)
		if code != api.OK || levels(got) > api.MaxNest {
			t.Fatalf("operator %d: got %v", op, code)
		}
		checkEqual(t, got, e, true, api.OK)
		checkMemory(t, got, e)
	}
	all := conjunction(names)
	if got, code := boolexp.Simplify(or(and(all, not(all)), all)); !equalExpr(got, all) || code != api.OK {
		t.Errorf("got %s, %v", show(got), code)
	}
}
