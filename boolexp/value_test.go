package boolexp_test

import (
	"testing"

	"accesscontrol/api"
	"accesscontrol/boolexp"
)

func checkEval(t *testing.T, e api.Expr, l []api.Bool, want bool, code api.Errno) {
	t.Helper()
	if v, c := boolexp.Eval(e, l); v != want || c != code {
		t.Errorf("Eval(%.200s, %v): got %v, %v, want %v, %v", show(e), l, v, c, want, code)
	}
}

// booleans returns a state as a list; others stand among the names.
func booleans(state map[string]bool, names []string) []api.Bool {
	l := []api.Bool{{Name: "other", Value: true}}
	for _, s := range names {
		l = append(l, api.Bool{Name: s, Value: state[s]}, api.Bool{Name: s + "_", Value: !state[s]}, api.Bool{Name: s, Value: !state[s]})
	}
	return l
}

// P6.2: Eval in all states; the first boolean with a name counts.
func TestEval(t *testing.T) {
	for _, e := range samples() {
		names := namesOf(e)
		if len(names) > 6 {
			continue
		}
		for _, state := range states(names) {
			checkEval(t, e, booleans(state, names), value(e, state), api.OK)
		}
	}
}

// P6.2: each operator.
func TestOperators(t *testing.T) {
	a, b := name("a"), name("b")
	for _, c := range []struct {
		e    api.Expr
		want [4]bool // the values for a and b false, a true, b true, both true
	}{
		{a, [4]bool{false, true, false, true}},
		{not(a), [4]bool{true, false, true, false}},
		{and(a, b), [4]bool{false, false, false, true}},
		{or(a, b), [4]bool{false, true, true, true}},
		{xor(a, b), [4]bool{false, true, true, false}},
		{differ(a, b), [4]bool{false, true, true, false}},
		{same(a, b), [4]bool{true, false, false, true}},
	} {
		for n, want := range c.want {
			checkEval(t, c.e, []api.Bool{{Name: "b", Value: n >= 2}, {Name: "a", Value: n%2 == 1}}, want, api.OK)
		}
	}
}

// P6.2: Eval of conditions with more names than a policy has booleans.
func TestEvalMany(t *testing.T) {
	names := numbered("b", 1<<11)
	for _, op := range binaries() {
		e := tree(op, api.MaxNest, names)
		for _, odd := range []int{1, 2, 3, 1 << 11} {
			state := map[string]bool{}
			var l []api.Bool
			for i, s := range names {
				state[s] = i%odd == odd-1
				l = append(l, api.Bool{Name: s, Value: state[s]})
			}
			checkEval(t, e, l, value(e, state), api.OK)
			checkEval(t, e, l[1:], false, api.ErrNone)
		}
	}
}

// P6.2: the errors, in their order.
func TestEvalErrors(t *testing.T) {
	a, b := name("a"), name("b")
	on, off := api.Bool{Name: "a", Value: true}, api.Bool{Name: "a"}
	for _, x := range wrong() {
		checkEval(t, x.e, nil, false, x.code)
		checkEval(t, x.e, []api.Bool{on}, false, x.code)
		checkEval(t, and(a, x.e), nil, false, x.code)
		checkEval(t, or(a, x.e), []api.Bool{on}, false, x.code)
	}
	for _, l := range [][]api.Bool{nil, {}, {on}, {off}, {on, {Name: "B", Value: true}, {Name: "b ", Value: true}, {Value: true}, {Name: "c", Value: true}}} {
		for _, e := range []api.Expr{b, not(b), or(a, b), or(b, a), and(a, b), and(b, a), or(or(a, not(a)), b), and(and(a, not(a)), b), same(b, b), or(b, not(b))} {
			checkEval(t, e, l, false, api.ErrNone)
		}
	}
	checkEval(t, a, []api.Bool{on, off}, true, api.OK)
	checkEval(t, a, []api.Bool{off, on}, false, api.OK)
	checkEval(t, a, []api.Bool{{Name: "b", Value: true}, {Name: "if"}, {}, off, on}, false, api.OK)
	checkEval(t, or(a, not(a)), []api.Bool{off}, true, api.OK)
}

func checkEqual(t *testing.T, a, b api.Expr, want bool, code api.Errno) {
	t.Helper()
	if v, c := boolexp.Equal(a, b); v != want || c != code {
		t.Errorf("Equal(%.200s, %.200s): got %v, %v, want %v, %v", show(a), show(b), v, c, want, code)
	}
}

// equal is the definition of Equal.
func equal(a, b api.Expr) bool {
	for _, state := range states(namesOf(a, b)) {
		if value(a, state) != value(b, state) {
			return false
		}
	}
	return true
}

// P6.5: Equal.
func TestEqual(t *testing.T) {
	l := append(allOf(2, "a", "b"), allOf(2, "b", "c")...)
	for seed := range 60 {
		pick := picker(seed)
		l = append(l, picked(pick, 4, []string{"a", "b", "c", "d", "e", "f", "g", "h"}[:2+pick(7)]))
	}
	for _, a := range l {
		for _, b := range l {
			if len(namesOf(a, b)) <= 5 || len(a.Kids) > 0 && len(b.Kids) > 0 && a.Op == b.Op {
				checkEqual(t, a, b, equal(a, b), api.OK)
			}
		}
	}
	for _, c := range []struct {
		a, b string
		want bool
	}{
		{"a", "b", false}, {"a", "a", true}, {"a && b", "b && a", true}, {"!(a && b)", "!a || !b", true}, {"a ^ b", "a != b", true}, {"a == b", "!(a ^ b)", true},
		{"a || !a", "b || !b", true}, {"a || !a", "b && !b", false}, {"a", "a && (b || !b)", true}, {"a", "a || b", false}, {"a && b || a && !b", "a", true},
	} {
		checkEqual(t, parsed(t, c.a), parsed(t, c.b), c.want, api.OK)
	}
}

// conjunction returns the and of names, with as few levels as possible.
func conjunction(names []string) api.Expr {
	if len(names) == 1 {
		return name(names[0])
	}
	half := len(names) / 2
	return and(conjunction(names[:half]), conjunction(names[half:]))
}

// P6.5: conditions with many names that differ in one state alone, or in none.
func TestManyNames(t *testing.T) {
	for n := 1; n <= api.MaxBools; n++ {
		names := numbered("b", n)
		all := conjunction(names)
		for i := range names {
			x, single := name(names[i]), name(names[i])
			checkEqual(t, and(all, x), all, true, api.OK)
			checkEqual(t, and(all, not(x)), and(single, not(single)), true, api.OK)
			checkEqual(t, and(xor(all, all), x), all, false, api.OK)
			checkEqual(t, or(all, not(all)), or(all, not(and(all, x))), true, api.OK)
			if n > 1 {
				checkEqual(t, or(x, all), x, true, api.OK)
				checkEqual(t, all, conjunction(append(append([]string{}, names[:i]...), names[i+1:]...)), false, api.OK)
			}
		}
		checkConstant(t, all, false, false)
		checkConstant(t, xor(all, all), false, true)
		checkConstant(t, same(all, all), true, true)
	}
}

// P6.5: the errors of Equal, in their order.
func TestEqualErrors(t *testing.T) {
	a := name("a")
	for _, x := range wrong() {
		checkEqual(t, x.e, a, false, x.code)
		checkEqual(t, a, x.e, false, x.code)
		checkEqual(t, x.e, x.e, false, x.code)
		checkEqual(t, x.e, name("if"), false, x.code)
		checkEqual(t, name("if"), x.e, false, api.ErrName)
		checkEqual(t, api.Expr{}, x.e, false, api.ErrArg)
		checkEqual(t, x.e, api.Expr{}, false, x.code)
		checkEqual(t, conjunction(numbered("b", 17)), x.e, false, x.code)
		checkEqual(t, x.e, conjunction(numbered("b", 17)), false, x.code)
	}
	l := numbered("b", 32)
	for _, c := range []struct {
		a, b []string
		want bool
		code api.Errno
	}{
		{l[:16], l[:16], true, api.OK}, {l[:16], l[15:16], false, api.OK}, {l[:8], l[8:16], false, api.OK}, {l[:12], l[4:16], false, api.OK}, {l[:1], l[1:16], false, api.OK},
		{l[:17], l[:17], false, api.ErrLong}, {l[:17], l[:1], false, api.ErrLong}, {l[:1], l[:17], false, api.ErrLong}, {l[:16], l[16:17], false, api.ErrLong}, {l[:9], l[8:17], false, api.ErrLong},
		{l[:16], l[16:], false, api.ErrLong},
	} {
		checkEqual(t, conjunction(c.a), conjunction(c.b), c.want, c.code)
	}
}

func checkConstant(t *testing.T, e api.Expr, want, ok bool) {
	t.Helper()
	if v, o := boolexp.Constant(e); v != want || o != ok {
		t.Errorf("Constant(%.200s): got %v, %v, want %v, %v", show(e), v, o, want, ok)
	}
}

// P6.5: Constant.
func TestConstant(t *testing.T) {
	for _, e := range samples() {
		names := namesOf(e)
		if len(names) > 8 {
			continue
		}
		l := states(names)
		first := value(e, l[0])
		same := true
		for _, state := range l {
			same = same && value(e, state) == first
		}
		checkConstant(t, e, first && same, same)
	}
	for s, want := range map[string]bool{"a || !a": true, "a && !a": false, "a == a": true, "a != a": false, "a ^ a": false, "(a == b) == (b == a)": true, "(a || b) && !a && !b": false, "!(a && b) || a": true} {
		checkConstant(t, parsed(t, s), want, true)
	}
	for _, s := range []string{"a", "!a", "a || b", "a && a", "a ^ b", "a == b"} {
		checkConstant(t, parsed(t, s), false, false)
	}
}

// P6.5: Constant of what is no condition, and of one with more names than a policy has booleans.
func TestConstantNone(t *testing.T) {
	for _, x := range wrong() {
		checkConstant(t, x.e, false, false)
		checkConstant(t, or(or(name("a"), not(name("a"))), x.e), false, false)
	}
	for _, n := range []int{17, 18, 100, 1 << 9} {
		all := conjunction(numbered("b", n))
		checkConstant(t, all, false, false)
		checkConstant(t, or(all, not(all)), false, false)
		checkConstant(t, xor(all, all), false, false)
	}
}
