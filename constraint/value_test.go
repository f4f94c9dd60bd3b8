package constraint_test

import (
	"math"
	"testing"

	"accesscontrol/api"
	"accesscontrol/constraint"
)

func checkEval(t *testing.T, e api.Expr, c api.Case, want bool) {
	t.Helper()
	if got := constraint.Eval(e, c); got != want {
		t.Errorf("Eval(%s, %v): got %v", brief(e), c, got)
	}
}

// numberIn returns the user, the role or the type that an attribute is.
func numberIn(c api.Case, a int) int {
	x := []api.Context{c.First, c.Second, c.Third}[a/5]
	return []int{x.User, x.Role, x.Type}[a%5]
}

// levelIn returns the level that an attribute is.
func levelIn(c api.Case, a int) api.Level {
	x := []api.Context{c.First, c.Second, c.Third}[a/5]
	return []api.Level{x.Range.Low, x.Range.High}[a%5-3]
}

// model is the definition of the value of an expression that is well-formed.
func model(e api.Expr, c api.Case) bool {
	switch e.Op {
	case api.ExprNot:
		return !model(e.Kids[0], c)
	case api.ExprAnd:
		x, y := model(e.Kids[0], c), model(e.Kids[1], c)
		return x && y
	case api.ExprOr:
		x, y := model(e.Kids[0], c), model(e.Kids[1], c)
		return x || y
	case api.ExprIn:
		n := numberIn(c, e.A)
		return n >= 0 && n < 256 && e.Set[n/64]&(1<<(n%64)) != 0
	}
	if e.A%5 < api.AttrLow {
		return (numberIn(c, e.A) == numberIn(c, e.B)) == (e.Rel == api.RelSame)
	}
	a, b := levelIn(c, e.A), levelIn(c, e.B)
	above, below := a.Sens >= b.Sens && a.Cats|b.Cats == a.Cats, b.Sens >= a.Sens && a.Cats|b.Cats == b.Cats
	switch e.Rel {
	case api.RelSame:
		return above && below
	case api.RelDiffer:
		return !above || !below
	case api.RelDominates:
		return above
	case api.RelDominatedBy:
		return below
	}
	return !above && !below
}

// differing is a case in which no two attributes of a sort are equal.
func differing() api.Case {
	at := func(sens int, cats uint64) api.Level { return api.Level{Sens: sens, Cats: cats} }
	return api.Case{
		First:  api.Context{User: 1, Role: 2, Type: 3, Range: api.Range{Low: at(0, 0), High: at(5, 15)}},
		Second: api.Context{User: 4, Role: 5, Type: 6, Range: api.Range{Low: at(1, 1), High: at(4, 7)}},
		Third:  api.Context{User: 7, Role: 8, Type: 9, Range: api.Range{Low: at(2, 2), High: at(3, 1<<63|2)}},
	}
}

// P17.2: which attribute each number is.
func TestAttributes(t *testing.T) {
	c := differing()
	for a := range 15 {
		for n := range 12 {
			if a%5 < api.AttrLow {
				checkEval(t, in(a, set(n)), c, n == 1+a%5+a/5*3)
			}
		}
		for b := range 15 {
			if min(a%5, 3) == min(b%5, 3) {
				checkEval(t, compare(a, api.RelSame, b), c, a == b)
				checkEval(t, compare(a, api.RelDiffer, b), c, a != b)
			}
		}
	}
}

// P17.2: all relations of levels.
func TestRelationsOfLevels(t *testing.T) {
	l := []api.Level{{}, {Sens: 1}, {Cats: 1}, {Cats: 2}, {Cats: 3}, {Sens: 1, Cats: 1}, {Sens: 1, Cats: 3}, {Sens: -1, Cats: 1}, {Sens: math.MaxInt, Cats: math.MaxUint64}, {Sens: math.MinInt, Cats: 1 << 63}}
	for _, low := range l {
		for _, high := range l {
			c := api.Case{First: api.Context{Range: api.Range{Low: low}}, Second: api.Context{Range: api.Range{High: high}}}
			for rel := range 5 {
				e := compare(api.AttrLow, rel, 5+api.AttrHigh)
				checkEval(t, e, c, model(e, c))
			}
		}
	}
	low, side := api.Context{}, api.Context{Range: api.Range{Low: api.Level{Cats: 1}}}
	high, other := api.Context{Range: api.Range{Low: api.Level{Sens: 1}}}, api.Context{Range: api.Range{Low: api.Level{Sens: 1, Cats: 3}}}
	for _, x := range []struct {
		a, b api.Context
		want [5]bool // ==, !=, dom, domby, incomp
	}{
		{low, low, [5]bool{true, false, true, true, false}},
		{low, side, [5]bool{false, true, false, true, false}},
		{high, low, [5]bool{false, true, true, false, false}},
		{side, high, [5]bool{false, true, false, false, true}},
		{high, side, [5]bool{false, true, false, false, true}},
		{other, side, [5]bool{false, true, true, false, false}},
		{other, other, [5]bool{true, false, true, true, false}},
	} {
		for rel, want := range x.want {
			checkEval(t, compare(api.AttrLow, rel, 5+api.AttrLow), api.Case{First: x.a, Second: x.b}, want)
			checkEval(t, compare(10+api.AttrLow, rel, api.AttrLow), api.Case{Third: x.a, First: x.b}, want)
		}
	}
}

// P17.2: operators.
func TestOperators(t *testing.T) {
	for _, x := range []bool{false, true} {
		for _, y := range []bool{false, true} {
			of := map[bool]api.Expr{false: fails(), true: holds()}
			checkEval(t, of[x], api.Case{}, x)
			checkEval(t, not(of[x]), api.Case{}, !x)
			checkEval(t, and(of[x], of[y]), api.Case{}, x && y)
			checkEval(t, or(of[x], of[y]), api.Case{}, x || y)
			checkEval(t, not(and(not(of[x]), of[y])), api.Case{}, x || !y)
		}
	}
}

// P17.2: any sets, also empty ones and ones with numbers that no policy has.
func TestAnySets(t *testing.T) {
	all := api.Set{math.MaxUint64, math.MaxUint64, math.MaxUint64, math.MaxUint64}
	for _, n := range []int{0, 1, 63, 64, 255, 256, -1, math.MinInt, math.MaxInt, 1 << 32} {
		of := 0 <= n && n < 256
		for a, c := range []api.Context{{User: n}, {Role: n}, {Type: n}} {
			checkEval(t, in(10+a, all), api.Case{Third: c}, of)
			checkEval(t, in(a, set()), api.Case{First: c}, false)
			checkEval(t, not(in(5+a, set())), api.Case{Second: c}, true)
			checkEval(t, in(5+a, api.Set{1, 0, 0, 1 << 63}), api.Case{Second: c}, n == 0 || n == 255)
		}
	}
}

// P17.2: an expression that is not well-formed is false, and so is each one that has it as an operand.
func TestMalformed(t *testing.T) {
	for _, x := range malformed() {
		for _, e := range []api.Expr{x.e, not(x.e), not(not(x.e)), or(holds(), x.e), or(x.e, holds()), not(and(fails(), x.e))} {
			checkEval(t, e, api.Case{}, false)
			checkEval(t, e, differing(), false)
		}
	}
	checkEval(t, nested(or(holds(), fails()), 10), api.Case{}, true) // 12 levels
	checkEval(t, nested(or(holds(), fails()), 12), api.Case{}, false)
	checkEval(t, or(holds(), nested(holds(), 12)), api.Case{}, false)
	checkEval(t, nested(holds(), 60000), api.Case{}, false)
}

// P17.2: values are those of the definition.
func TestModel(t *testing.T) {
	count := map[bool]int{}
	for seed := range 5000 {
		pick := newPicker(seed)
		e := pick.expr(1+pick(6), 3)
		for range 4 {
			c := pick.contexts()
			want := model(e, c)
			checkEval(t, e, c, want)
			count[want]++
		}
	}
	if min(count[false], count[true]) < 5000 {
		t.Errorf("got %v", count)
	}
}

// P17.2: example 2.
func TestExampleOfValues(t *testing.T) {
	p := policy(t, small)
	c := api.Case{First: context(t, p, "root:system:init_t:s0"), Second: context(t, p, "root:object_r:file_t:s0")}
	for src, want := range map[string]bool{
		"r1 == r2": false, "u1 == u2": true, "l1 dom l2": true, "l1 incomp h2": false, "r1 != r2 && t1 != t2": true,
		"!(r1 == r2) || t1 == t2": true,
	} {
		checkEval(t, parsed(t, src), c, want)
	}
	for src, want := range map[string]bool{"t1 in { init_t file_t }": true, "t2 in domain": false, "r2 in object_r && !(r1 in object_r)": true} {
		e, code := constraint.Compile(parsed(t, src), p, false)
		if code != api.OK {
			t.Errorf("Compile(%q): got %v", src, code)
		}
		checkEval(t, e, c, want)
	}
}
