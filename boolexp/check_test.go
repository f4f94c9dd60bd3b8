package boolexp_test

import (
	"slices"
	"strings"
	"testing"

	"accesscontrol/api"
	"accesscontrol/boolexp"
)

func checkCheck(t *testing.T, e api.Expr, code api.Errno) {
	t.Helper()
	if got := boolexp.Check(e); got != code {
		t.Errorf("Check(%.200s): got %v, want %v", show(e), got, code)
	}
}

// P6.1: Check accepts conditions.
func TestCheck(t *testing.T) {
	for _, e := range samples() {
		checkCheck(t, e, api.OK)
	}
	for _, s := range []string{"a", "_", "Z9_", "u1", "dom", "object_r", "truE", strings.Repeat("n", api.MaxName)} {
		checkCheck(t, name(s), api.OK)
	}
	checkCheck(t, api.Expr{Op: api.ExprName, Names: []string{"a"}, Kids: []api.Expr{}}, api.OK)
	checkCheck(t, api.Expr{Op: api.ExprNot, Names: []string{}, Kids: []api.Expr{name("a")}}, api.OK)
	checkCheck(t, chain(api.MaxNest-1), api.OK)
	checkCheck(t, tree(api.ExprAnd, api.MaxNest, numbered("b", 1<<11)), api.OK)
}

// P6.1: Check returns the error of an expression, and of one that has it as a kid.
func TestCheckErrors(t *testing.T) {
	a := name("a")
	for _, x := range wrong() {
		checkCheck(t, x.e, x.code)
		checkCheck(t, not(x.e), x.code)
		for _, op := range binaries() {
			checkCheck(t, binary(op, x.e, a), x.code)
			checkCheck(t, binary(op, a, x.e), x.code)
			checkCheck(t, not(binary(op, not(a), x.e)), x.code)
		}
	}
}

// P6.1: Check returns the error of the first node that has one.
func TestCheckOrder(t *testing.T) {
	a, arg, bad, long := name("a"), api.Expr{}, name("if"), chain(12)
	for _, c := range []struct {
		e    api.Expr
		want api.Errno
	}{
		{and(arg, bad), api.ErrArg},
		{and(bad, arg), api.ErrName},
		{and(long, bad), api.ErrLong},
		{and(bad, long), api.ErrName},
		{and(arg, long), api.ErrArg},
		{and(long, arg), api.ErrLong},
		{and(not(not(arg)), bad), api.ErrArg},
		{and(not(not(bad)), arg), api.ErrName},
		{and(a, and(bad, arg)), api.ErrName},
		{and(and(a, bad), arg), api.ErrName},
		{api.Expr{Op: api.ExprAnd, Kids: []api.Expr{bad}}, api.ErrArg},
		{api.Expr{Op: api.ExprAnd, A: 1, Kids: []api.Expr{bad, long}}, api.ErrArg},
		{api.Expr{Op: api.ExprNot, Rel: 1, Kids: []api.Expr{long}}, api.ErrArg},
	} {
		checkCheck(t, c.e, c.want)
	}
	for _, e := range []api.Expr{a, arg, bad} {
		deep, want := e, boolexp.Check(e)
		for range api.MaxNest - 1 {
			deep = or(a, deep)
		}
		checkCheck(t, deep, want)
		checkCheck(t, or(a, deep), api.ErrLong)
	}
}

// P6.1: Names.
func TestNames(t *testing.T) {
	for _, e := range samples() {
		if got := boolexp.Names(e); !slices.Equal(got, namesOf(e)) {
			t.Errorf("Names(%s): got %v", show(e), got)
		}
	}
	e := and(or(name("b"), name("_")), xor(not(name("a1")), same(name("B"), differ(name("a"), and(name("b"), name("a_"))))))
	if got, want := boolexp.Names(e), strings.Fields("B _ a a1 a_ b"); !slices.Equal(got, want) {
		t.Errorf("Names: got %v, want %v", got, want)
	}
	for _, x := range wrong() {
		for _, e := range []api.Expr{x.e, not(x.e), and(name("a"), x.e)} {
			if got := boolexp.Names(e); len(got) != 0 {
				t.Errorf("Names(%.200s): got %v", show(e), got)
			}
		}
	}
	all := numbered("b", 1<<11)
	if got := boolexp.Names(tree(api.ExprOr, api.MaxNest, all)); len(got) != len(all) || !slices.IsSorted(got) {
		t.Errorf("Names: got %d names", len(got))
	}
}

// P6.1: Names returns new memory.
func TestNamesAreNew(t *testing.T) {
	e := name("a")
	l := boolexp.Names(e)
	l[0] = "x"
	_ = append(boolexp.Names(e)[:0], "y")
	if e.Names[0] != "a" || boolexp.Names(e)[0] != "a" {
		t.Errorf("the argument changed to %v", e)
	}
}

// distinct are expressions of which no two are the same, also ones that are no conditions.
func distinct() []api.Expr {
	a, b := name("a"), name("b")
	l := allOf(2, "a", "b")
	for _, e := range []api.Expr{{}, a, not(a), and(a, b)} {
		for _, change := range []func(*api.Expr){
			func(x *api.Expr) { x.Op += 100 },
			func(x *api.Expr) { x.A = 1 },
			func(x *api.Expr) { x.Rel = 1 },
			func(x *api.Expr) { x.B = 1 },
			func(x *api.Expr) { x.Set[0] = 1 },
			func(x *api.Expr) { x.Set[3] = 1 << 63 },
			func(x *api.Expr) { x.Names = append(slices.Clone(x.Names), "c") },
			func(x *api.Expr) { x.Names = append(slices.Clone(x.Names), "") },
			func(x *api.Expr) { x.Kids = append(slices.Clone(x.Kids), api.Expr{}) },
			func(x *api.Expr) { x.Kids = append(slices.Clone(x.Kids), b) },
			func(x *api.Expr) { x.Kids = append([]api.Expr{name("d")}, x.Kids...) },
		} {
			x := e
			change(&x)
			l = append(l, x, not(not(x)), or(a, x))
		}
	}
	return append(l, api.Expr{}, api.Expr{Op: api.ExprName, Names: []string{"a", "b"}}, api.Expr{Op: api.ExprName, Names: []string{"b", "a"}}, chain(40), chain(41))
}

// P6.1: Same.
func TestSame(t *testing.T) {
	l := distinct()
	copies := distinct()
	for i := range l {
		for j := range copies {
			if got := boolexp.Same(l[i], copies[j]); got != (i == j) {
				t.Errorf("Same(%v, %v): got %v", l[i], copies[j], got)
			}
		}
	}
	if !boolexp.Same(api.Expr{Op: 9, Names: []string{}}, api.Expr{Op: 9, Kids: []api.Expr{}}) {
		t.Error("nil and empty slices are not the same")
	}
	if boolexp.Same(parsed(t, "a && b"), parsed(t, "b && a")) || boolexp.Same(parsed(t, "!!a"), parsed(t, "a")) {
		t.Error("conditions with the same values are the same")
	}
}

// P6.1: Negate.
func TestNegate(t *testing.T) {
	for _, e := range append(distinct(), samples()...) {
		got := boolexp.Negate(e)
		if e.Op == api.ExprNot && len(e.Kids) == 1 {
			if !equalExpr(got, e.Kids[0]) {
				t.Errorf("Negate(%v): got %v", e, got)
			}
		} else if !equalExpr(got, not(e)) {
			t.Errorf("Negate(%v): got %v", e, got)
		}
		checkMemory(t, got, e)
	}
	for _, c := range []struct{ e, want api.Expr }{
		{name("a"), not(name("a"))},
		{not(name("a")), name("a")},
		{not(not(name("a"))), not(name("a"))},
		{api.Expr{Op: api.ExprNot}, not(api.Expr{Op: api.ExprNot})},
		{api.Expr{Op: api.ExprNot, A: 7, Names: []string{"x"}, Kids: []api.Expr{{B: 3}}}, api.Expr{B: 3}},
		{api.Expr{Op: api.ExprNot, Kids: []api.Expr{name("a"), name("b")}}, not(api.Expr{Op: api.ExprNot, Kids: []api.Expr{name("a"), name("b")}})},
		{api.Expr{Op: api.ExprAnd, Kids: []api.Expr{name("a")}}, not(api.Expr{Op: api.ExprAnd, Kids: []api.Expr{name("a")}})},
	} {
		if got := boolexp.Negate(c.e); !equalExpr(got, c.want) {
			t.Errorf("Negate(%v): got %v, want %v", c.e, got, c.want)
		}
	}
}

// P6.1: expressions with many levels, or with many kids.
func TestLarge(t *testing.T) {
	deep, wide := or(chain(1<<16-3), name("b")), api.Expr{Op: api.ExprOr, Kids: slices.Repeat([]api.Expr{name("a")}, 1<<16)}
	for _, e := range []api.Expr{deep, wide} {
		n := boolexp.Negate(e)
		if n.Op != api.ExprNot || len(n.Kids) != 1 || !boolexp.Same(n.Kids[0], e) || !boolexp.Same(boolexp.Negate(n), e) || boolexp.Same(e, n) {
			t.Error("Same or Negate of a large expression")
		}
	}
	other := boolexp.Negate(boolexp.Negate(wide))
	other.Kids[1<<16-1].Names[0] = "b"
	if boolexp.Same(wide, other) || boolexp.Same(deep, or(chain(1<<16-4), name("b"))) {
		t.Error("large expressions are the same")
	}
	if !boolexp.Same(boolexp.Negate(chain(1<<16-1)), chain(1<<16-2)) {
		t.Error("Negate of many nots")
	}
}
