package constraint_test

import (
	"math"
	"slices"
	"testing"

	"accesscontrol/api"
	"accesscontrol/constraint"
)

func checkDenied(t *testing.T, p api.Policy, class int, s, o api.Context, perms uint32, first int) {
	t.Helper()
	if got, n := constraint.Denied(p, class, s, o); got != perms || n != first {
		t.Errorf("Denied(%d, %v, %v): got %b, %d, want %b, %d", class, s, o, got, n, perms, first)
	}
}

func checkValid(t *testing.T, p api.Policy, class int, old, next, process api.Context, first int) {
	t.Helper()
	if got, n := constraint.Valid(p, class, old, next, process); got != (first == -1) || n != first {
		t.Errorf("Valid(%d, %v, %v, %v): got %v, %d, want %d", class, old, next, process, got, n, first)
	}
}

// P17.5: the permissions of all constraints of the class that do not hold, and the first of these.
func TestDenied(t *testing.T) {
	p := policy(t, base+`
constrain dir { read add } t1 in a;
validatetrans file t1 == t2;
constrain file write u1 == u2;
constrain file { read write } l1 dom l2;
constrain file execute t1 in x && r2 in object_r;
constrain dir add u1 == u2;`)
	const read, write, execute, add = 1, 2, 4, 2
	a, b, c := context(t, p, "u:r1:a:s0"), context(t, p, "v:object_r:b:s1:c1"), context(t, p, "u:object_r:c:s0")
	for _, x := range []struct {
		class           int
		subject, object api.Context
		perms           uint32
		first           int
	}{
		{0, a, a, execute, 4},
		{0, a, c, 0, -1},
		{0, b, b, 0, -1},
		{0, c, c, execute, 4},
		{0, a, b, read | write, 2},
		{0, c, b, read | write | execute, 2},
		{0, b, c, write, 2},
		{0, b, a, write | execute, 2},
		{1, a, b, add, 5},
		{1, a, c, 0, -1},
		{1, b, b, read | add, 0},
		{1, c, b, read | add, 0},
		{2, c, b, 0, -1},
		{-1, c, b, 0, -1},
		{math.MaxInt, c, b, 0, -1},
		{math.MinInt, c, b, 0, -1},
	} {
		checkDenied(t, p, x.class, x.subject, x.object, x.perms, x.first)
	}
	checkDenied(t, api.Policy{}, 0, a, b, 0, -1)
}

// P17.5: the constraints about changes that do not hold.
func TestValid(t *testing.T) {
	p := policy(t, base+`
constrain file write u1 != u1;
validatetrans dir t3 in a;
validatetrans file t1 == t2 || t3 in a;
validatetrans file h2 dom h1;
validatetrans file r3 in { r1 r2 };
constrain file read u1 != u1;`)
	a, b, c := context(t, p, "u:r1:a:s0"), context(t, p, "v:object_r:b:s1:c1"), context(t, p, "u:object_r:c:s0")
	for _, x := range []struct {
		class              int
		old, next, process api.Context
		first              int
	}{
		{0, b, b, a, -1},
		{0, c, b, a, -1},
		{0, c, c, c, 4},
		{0, b, c, a, 3},
		{0, b, c, c, 2},
		{0, c, b, b, 2},
		{0, b, b, b, 4},
		{1, b, c, a, -1},
		{1, b, b, b, 1},
		{2, b, c, c, -1},
		{-1, b, c, c, -1},
		{math.MaxInt, b, c, c, -1},
		{math.MinInt, b, c, c, -1},
	} {
		checkValid(t, p, x.class, x.old, x.next, x.process, x.first)
	}
	checkValid(t, api.Policy{}, 0, a, b, c, -1)
}

// P17.5: any contexts.
func TestAnyContexts(t *testing.T) {
	p := policy(t, base+"constrain file write t1 in { a b c }; constrain file read u1 == u2 && h1 dom l1; validatetrans file r3 in { object_r r1 r2 r3 }; validatetrans file t2 == t3;")
	ok := api.Context{User: 2, Type: 1}
	for _, n := range []int{3, 4, 64, 256, -1, math.MaxInt, math.MinInt} {
		c := api.Context{User: n, Role: n + 1, Type: n, Range: api.Range{Low: api.Level{Sens: n}, High: api.Level{Sens: n, Cats: 1 << 63}}}
		checkDenied(t, p, 0, c, c, 2, 0)
		checkDenied(t, p, 0, ok, c, 1, 1)
		checkDenied(t, p, 0, c, ok, 3, 0)
		checkValid(t, p, 0, c, ok, ok, -1)
		checkValid(t, p, 0, ok, c, ok, 3)
		want := 2
		if n == -1 {
			want = 3 // the role is that of objects
		}
		checkValid(t, p, 0, ok, ok, c, want)
	}
}

// P17.5: what is denied and valid follows from the values of the expressions.
func TestModelOfConstraints(t *testing.T) {
	p, denied, invalid := policy(t, base), 0, 0
	for seed := range 500 {
		pick := newPicker(seed)
		p.Constraints = nil
		for range pick(8) {
			x := api.Constraint{Class: pick(2), Perms: uint32(1 + pick(3)), Expr: pick.expr(4, 2)}
			if pick(3) == 0 {
				x = api.Constraint{Class: pick(2), Validate: true, Expr: pick.expr(4, 3)}
			}
			p.Constraints = append(p.Constraints, x)
		}
		for class := -1; class < 3; class++ {
			c := pick.contexts()
			perms, first, firstOfChanges := uint32(0), -1, -1
			for n, x := range slices.Backward(p.Constraints) {
				switch {
				case x.Class != class || x.Validate && model(x.Expr, c):
				case x.Validate:
					firstOfChanges = n
				case !model(x.Expr, api.Case{First: c.First, Second: c.Second}):
					perms, first = perms|x.Perms, n
				}
			}
			checkDenied(t, p, class, c.First, c.Second, perms, first)
			checkValid(t, p, class, c.First, c.Second, c.Third, firstOfChanges)
			if perms == 3 {
				denied++
			}
			if firstOfChanges > 0 {
				invalid++
			}
		}
	}
	if denied < 100 || invalid < 100 {
		t.Errorf("got %d, %d", denied, invalid)
	}
}

// P17.5: example 3.
func TestExampleOfDenied(t *testing.T) {
	p := policy(t, small+"constrain file write r1 == r2;")
	checkDenied(t, p, 1, context(t, p, "root:system:init_t:s0"), context(t, p, "root:object_r:file_t:s0"), 2, 0)
}

// P17.6: nodes that mention an attribute.
func TestMentions(t *testing.T) {
	bad := func(op, a, b int) api.Expr { return api.Expr{Op: op, A: a, B: b, Rel: 99, Names: []string{"x"}} }
	for _, x := range []struct {
		e    api.Expr
		want []int // of the numbers from -2 to 19
	}{
		{compare(0, api.RelSame, 5), []int{0, 5}},
		{compare(14, api.RelDominates, 3), []int{3, 14}},
		{compare(2, api.RelDiffer, 2), []int{2}},
		{in(12, set(1)), []int{12}},
		{in(0, set()), []int{0}},
		{named(7, "a"), []int{7}},
		{not(in(12, set(1))), []int{12}},
		{or(and(in(1, set(1)), compare(3, 0, 9)), not(compare(5, 1, 10))), []int{1, 3, 5, 9, 10}},
		{api.Expr{}, nil},
		{bad(api.ExprCompare, -2, 19), []int{-2, 19}},
		{bad(api.ExprIn, 19, 4), []int{19}},
		{bad(api.ExprIn, -1, 0), []int{-1}},
		{bad(api.ExprNot, 1, 1), nil},
		{bad(api.ExprName, 1, 1), nil},
		{bad(-1, 1, 1), nil},
		{op(api.ExprXor, in(3, set(1)), op(77, compare(8, 9, 9), api.Expr{}, in(4, set()))), []int{3, 4, 8, 9}},
		{api.Expr{Op: api.ExprCompare, A: 1, B: 6, Kids: []api.Expr{in(2, set())}}, []int{1, 2, 6}},
		{api.Expr{Op: api.ExprIn, A: 1, B: 6, Kids: []api.Expr{holds()}}, []int{0, 1}},
		{api.Expr{Op: api.ExprName, Kids: []api.Expr{in(2, set())}}, []int{2}},
		{nested(in(2, set()), 40), []int{2}},
	} {
		for attr := -2; attr < 20; attr++ {
			if got := constraint.Mentions(x.e, attr); got != slices.Contains(x.want, attr) {
				t.Errorf("Mentions(%s, %d): got %v", brief(x.e), attr, got)
			}
		}
	}
}

// P17.6: large expressions, and numbers.
func TestLargeMentions(t *testing.T) {
	deep, wide := nested(in(math.MinInt, set()), 1<<16-2), op(api.ExprOr, slices.Repeat([]api.Expr{fails()}, 1<<16)...)
	wide.Kids[1<<16-1].B = math.MaxInt
	for _, attr := range []int{math.MinInt, math.MaxInt, 0} {
		if got := constraint.Mentions(deep, attr); got != (attr == math.MinInt) {
			t.Errorf("got %v for %d", got, attr)
		}
		if got := constraint.Mentions(wide, attr); got != (attr != math.MinInt) {
			t.Errorf("got %v for %d", got, attr)
		}
	}
}
