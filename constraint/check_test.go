package constraint_test

import (
	"math"
	"slices"
	"testing"

	"accesscontrol/api"
	"accesscontrol/constraint"
	"accesscontrol/linker"
)

func checkCheck(t *testing.T, p api.Policy, e api.Expr, validate bool, want api.Errno) {
	t.Helper()
	if got := constraint.Check(e, p, validate); got != want {
		t.Errorf("Check(%s, %v): got %v, want %v", brief(e), validate, got, want)
	}
}

// wrong is an expression with an error, and its error where three contexts are permitted.
type wrong struct {
	e              api.Expr
	two, withThird api.Errno
}

func wrongSame(e api.Expr, code api.Errno) wrong { return wrong{e, code, code} }

// malformed are expressions without a value, in any policy.
func malformed() []wrong {
	x := holds()
	l := []wrong{
		wrongSame(compare(0, 0, -1), api.ErrRange),
		wrongSame(compare(15, 0, 0), api.ErrRange),
		wrongSame(compare(math.MinInt, 0, math.MaxInt), api.ErrRange),
		wrongSame(compare(3, 5, 3), api.ErrRange),
		wrongSame(compare(3, -1, 3), api.ErrRange),
		wrongSame(compare(0, 5, 1), api.ErrRange),
		wrongSame(compare(0, 0, 1), api.ErrKind),
		wrongSame(compare(2, 0, 8), api.ErrKind),
		wrongSame(compare(2, 2, 7), api.ErrKind),
		wrong{compare(2, 2, 12), api.ErrRange, api.ErrKind},
		wrong{compare(13, 0, 11), api.ErrRange, api.ErrKind},
		wrongSame(in(-1, set(0)), api.ErrRange),
		wrongSame(in(15, set(0)), api.ErrRange),
		wrongSame(in(15, set()), api.ErrRange),
		wrongSame(in(math.MinInt, set(0)), api.ErrRange),
		wrongSame(in(3, set(0)), api.ErrKind),
		wrongSame(in(9, set()), api.ErrKind),
		wrongSame(in(4, set(63)), api.ErrKind),
		wrong{in(14, set(0)), api.ErrRange, api.ErrKind},
	}
	for _, n := range []int{math.MinInt, -1, 0, api.ExprName, api.ExprXor, api.ExprSame, api.ExprDiffer, api.ExprIn + 1, math.MaxInt} {
		l = append(l, wrongSame(op(n), api.ErrArg), wrongSame(op(n, x), api.ErrArg), wrongSame(op(n, x, x), api.ErrArg), wrongSame(api.Expr{Op: n, Names: []string{"a"}}, api.ErrArg))
	}
	for _, e := range []api.Expr{op(api.ExprNot), op(api.ExprAnd), op(api.ExprOr), compare(0, 0, 0), in(0, set(0))} {
		for n, count := range []int{api.ExprNot: 1, api.ExprAnd: 2, api.ExprOr: 2, api.ExprCompare: 0, api.ExprIn: 0} {
			for kids := range 5 {
				if n == e.Op && kids != count {
					bad := e
					bad.Kids = slices.Repeat([]api.Expr{x}, kids)
					l = append(l, wrongSame(bad, api.ErrArg))
				}
			}
		}
	}
	for _, e := range []api.Expr{not(x), and(x, x), or(x, x), compare(0, 0, 0), in(0, set(0)), compare(-1, 9, 99), in(3, set())} {
		for _, change := range []func(*api.Expr){
			func(e *api.Expr) { e.Names = []string{""} },
			func(e *api.Expr) { e.Names = []string{"a", "b"} },
			func(e *api.Expr) { e.A, e.Names = 1, []string{"a"} },
			func(e *api.Expr) { e.Rel, e.Set = -1, api.Set{0, 1} },
			func(e *api.Expr) { e.B, e.Set = math.MinInt, api.Set{0, 0, 0, 1 << 63} },
		} {
			bad := e
			change(&bad)
			l = append(l, wrongSame(bad, api.ErrArg))
		}
	}
	for _, e := range []api.Expr{not(x), and(x, x), or(x, x)} {
		for _, change := range []func(*api.Expr){
			func(e *api.Expr) { e.A = 1 }, func(e *api.Expr) { e.B = -1 }, func(e *api.Expr) { e.Rel = 1 }, func(e *api.Expr) { e.Set[3] = 1 },
		} {
			bad := e
			change(&bad)
			l = append(l, wrongSame(bad, api.ErrArg))
		}
	}
	bad := in(0, set(0))
	bad.Rel = 1
	l = append(l, wrongSame(bad, api.ErrArg))
	bad.Rel, bad.B = 0, 1
	return append(l, wrongSame(bad, api.ErrArg))
}

// wrongSets are expressions with a value that have an error in the policy of base.
func wrongSets() []wrong {
	return []wrong{
		wrongSame(in(api.AttrUser, set(2)), api.ErrRange),
		wrongSame(in(api.AttrRole, set(0, 4)), api.ErrRange),
		wrongSame(in(5+api.AttrType, set(3)), api.ErrRange),
		wrongSame(in(api.AttrType, api.Set{1, 1}), api.ErrRange),
		wrongSame(in(api.AttrType, api.Set{1, 0, 0, 1 << 63}), api.ErrRange),
		wrongSame(in(api.AttrUser, set()), api.ErrArg),
		wrongSame(in(5+api.AttrRole, set()), api.ErrArg),
		wrongSame(in(api.AttrType, set()), api.ErrArg),
		wrong{in(10+api.AttrUser, set(2)), api.ErrRange, api.ErrRange},
		wrong{in(10+api.AttrType, set()), api.ErrRange, api.ErrArg},
		wrong{in(10+api.AttrRole, set(1)), api.ErrRange, api.OK},
		wrong{compare(0, 0, 10), api.ErrRange, api.OK},
		wrong{compare(14, 4, 4), api.ErrRange, api.OK},
	}
}

// P17.1: the errors of one operator, and of an expression that has it as an operand.
func TestCheck(t *testing.T) {
	p, ok := policy(t, base), in(api.AttrRole, set(0, 1, 2, 3))
	for _, x := range append(malformed(), wrongSets()...) {
		l := []api.Expr{x.e, not(x.e), and(x.e, ok), and(ok, x.e), or(not(ok), not(x.e))}
		if x.withThird != api.OK {
			l = append(l, or(x.e, op(0)), and(x.e, in(3, set(9))))
		}
		for _, e := range l {
			checkCheck(t, p, e, false, x.two)
			checkCheck(t, p, e, true, x.withThird)
		}
	}
}

// P17.1: comparisons of all attributes.
func TestCheckOfComparisons(t *testing.T) {
	p := policy(t, base)
	for a := -2; a < 18; a++ {
		for b := -2; b < 18; b++ {
			for rel := -2; rel < 7; rel++ {
				for contexts := 2; contexts <= 3; contexts++ {
					sorts := "urtll"
					want := api.OK
					if min(a, b, rel) < 0 || max(a, b) >= 5*contexts || rel > 4 {
						want = api.ErrRange
					} else if sorts[a%5] != sorts[b%5] || sorts[a%5] != 'l' && rel >= 2 {
						want = api.ErrKind
					}
					checkCheck(t, p, compare(a, rel, b), contexts == 3, want)
				}
			}
		}
	}
}

// P17.1: sets of users, of roles, with that of objects, and of types.
func TestCheckOfSets(t *testing.T) {
	p := policy(t, base)
	for a := range 15 {
		for n := range 256 {
			want := api.OK
			if count := []int{2, 4, 3, -1, -1}[a%5]; count < 0 {
				want = api.ErrKind
			} else if n >= count {
				want = api.ErrRange
			}
			var s api.Set
			s[n/64] = 1 << (n % 64)
			checkCheck(t, p, in(a, s), true, want)
		}
	}
	p.Types = make([]api.Type, 256)
	checkCheck(t, p, in(2, api.Set{math.MaxUint64, math.MaxUint64, math.MaxUint64, math.MaxUint64}), false, api.OK)
	checkCheck(t, api.Policy{}, in(2, set(0)), false, api.ErrRange)
	checkCheck(t, api.Policy{}, in(2, set()), false, api.ErrArg)
	checkCheck(t, api.Policy{}, holds(), false, api.OK)
}

// P17.1: an expression with too many levels has no other error; otherwise the first node counts.
func TestCheckOrder(t *testing.T) {
	p := policy(t, base)
	arg, kind, long, last := op(77), compare(0, 0, 1), nested(holds(), 12), op(api.ExprOr, holds(), compare(3, 0, 20))
	for _, x := range []struct {
		e    api.Expr
		want api.Errno
	}{
		{nested(holds(), 11), api.OK},
		{long, api.ErrLong},
		{nested(op(0), 12), api.ErrLong},
		{nested(op(0), 11), api.ErrArg},
		{nested(and(fails(), holds()), 10), api.OK},
		{nested(and(fails(), not(holds())), 10), api.ErrLong},
		{op(-5, holds(), holds(), long), api.ErrLong},
		{and(arg, long), api.ErrLong},
		{and(long, arg), api.ErrLong},
		{op(api.ExprCompare, nested(holds(), 10)), api.ErrArg},
		{op(api.ExprCompare, long), api.ErrLong},
		{nested(holds(), 1000), api.ErrLong},
		{and(arg, kind), api.ErrArg},
		{and(kind, arg), api.ErrKind},
		{and(not(not(kind)), arg), api.ErrKind},
		{or(last, arg), api.ErrRange},
		{or(and(holds(), arg), kind), api.ErrArg},
		{op(api.ExprNot, kind, holds()), api.ErrArg},
		{op(api.ExprAnd, kind), api.ErrArg},
		{or(in(0, set()), in(0, set(9))), api.ErrArg},
		{or(in(0, set(9)), in(0, set())), api.ErrRange},
	} {
		checkCheck(t, p, x.e, false, x.want)
		checkCheck(t, p, x.e, true, x.want)
	}
}

// P17.1: the check is that of layer 13.
func TestCheckOfLinker(t *testing.T) {
	p, found := policy(t, base), map[api.Errno]int{}
	for seed := range 20000 {
		pick := newPicker(seed)
		x := api.Constraint{Perms: 1, Expr: pick.junk(4, 3)}
		if pick(2) == 0 {
			x = api.Constraint{Validate: true, Expr: x.Expr}
		}
		p.Constraints = []api.Constraint{x}
		want := linker.Check(p)
		checkCheck(t, p, x.Expr, x.Validate, want)
		found[want]++
	}
	for _, code := range []api.Errno{api.OK, api.ErrLong, api.ErrArg, api.ErrRange, api.ErrKind} {
		if found[code] < 200 {
			t.Errorf("only %d expressions have the error %v", found[code], code)
		}
	}
}
