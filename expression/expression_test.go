package expression_test

import (
	"slices"
	"testing"

	"accesscontrol/api"
	"accesscontrol/expression"
)

func op(op int, kids ...api.Expr) api.Expr { return api.Expr{Op: op, Kids: kids} }

// nested returns an expression within so many negations.
func nested(e api.Expr, nots int) api.Expr {
	for range nots {
		e = op(api.ExprNot, e)
	}
	return e
}

// The sorts of attributes, and how many there are.
func TestAttributes(t *testing.T) {
	sorts := []int{api.AttrUser, api.AttrRole, api.AttrType, expression.Levels, expression.Levels}
	for a := range 15 {
		if got := expression.SortOf(a); got != sorts[a%5] {
			t.Errorf("SortOf(%d): got %d", a, got)
		}
	}
	if two, three := expression.Attributes(false), expression.Attributes(true); two != 10 || three != 15 {
		t.Errorf("got %d and %d attributes", two, three)
	}
}

// An expression is too deep if any operand is.
func TestTooDeep(t *testing.T) {
	for nots, want := range map[int]bool{0: false, 1: false, 10: false, 11: true, 12: true, 60000: true} {
		deep := nested(op(api.ExprNot, api.Expr{}), nots)
		for _, e := range []api.Expr{deep, op(-1, slices.Concat(deep.Kids, []api.Expr{{}})...), op(-1, slices.Concat([]api.Expr{{}}, deep.Kids)...)} {
			if got := expression.TooDeep(&e); got != want {
				t.Errorf("%d nots: got %v", nots, got)
			}
		}
	}
}

// Check visits an operator before its operands, and stops at the first error.
func TestCheck(t *testing.T) {
	e := op(1, op(2, op(3), op(4)), op(5), op(6, op(7)))
	for last := range 9 {
		var visited []int
		code := expression.Check(&e, func(node *api.Expr) api.Errno {
			visited = append(visited, node.Op)
			if node.Op == last {
				return api.ErrState
			}
			return api.OK
		})
		want, end := api.ErrState, last
		if last < 1 || last > 7 {
			want, end = api.OK, 7
		}
		if code != want || !slices.Equal(visited, []int{1, 2, 3, 4, 5, 6, 7}[:end]) {
			t.Errorf("error at %d: got %v, visited %v", last, code, visited)
		}
	}
	deep := nested(e, 10)
	if code := expression.Check(&deep, func(*api.Expr) api.Errno { return api.ErrState }); code != api.ErrLong {
		t.Errorf("got %v", code)
	}
}

// The conditions and constraints of a policy; the tests of linker, constraint and condition have all errors.
func TestPolicy(t *testing.T) {
	p := api.Policy{Types: make([]api.Type, 2), Roles: make([]api.Role, 1), Users: make([]api.User, 3)}
	boolean := func(a int) api.Expr { return api.Expr{Op: api.ExprName, A: a} }
	in := func(a int, s api.Set) api.Expr { return api.Expr{Op: api.ExprIn, A: a, Set: s} }
	for _, x := range []struct {
		e    api.Expr
		want [3]api.Errno // as a condition of two booleans, as a constraint, and as an operator by itself
	}{
		{boolean(1), [3]api.Errno{api.OK, api.ErrArg, api.ErrArg}},
		{boolean(2), [3]api.Errno{api.ErrRange, api.ErrArg, api.ErrArg}},
		{op(api.ExprNot, boolean(1)), [3]api.Errno{api.OK, api.ErrArg, api.OK}},
		{op(api.ExprXor, boolean(1), boolean(0)), [3]api.Errno{api.OK, api.ErrArg, api.ErrArg}},
		{in(0, api.Set{7}), [3]api.Errno{api.ErrArg, api.OK, api.OK}},
		{in(1, api.Set{2}), [3]api.Errno{api.ErrArg, api.ErrRange, api.OK}},
		{in(2, api.Set{}), [3]api.Errno{api.ErrArg, api.ErrArg, api.OK}},
		{in(3, api.Set{1}), [3]api.Errno{api.ErrArg, api.ErrKind, api.ErrKind}},
		{in(10, api.Set{1}), [3]api.Errno{api.ErrArg, api.ErrRange, api.ErrRange}},
		{api.Expr{Op: api.ExprCompare, A: 3, B: 9, Rel: api.RelIncomparable}, [3]api.Errno{api.ErrArg, api.OK, api.OK}},
		{api.Expr{Op: api.ExprCompare, A: 1, B: 6, Rel: api.RelDominates}, [3]api.Errno{api.ErrArg, api.ErrKind, api.ErrKind}},
	} {
		got := [3]api.Errno{expression.Condition(&x.e, 2), expression.Constraint(&x.e, &p, false), expression.Operator(&x.e, 10)}
		if got != x.want {
			t.Errorf("%v: got %v, want %v", x.e, got, x.want)
		}
	}
}
