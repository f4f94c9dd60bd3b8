package constraint_test

import (
	"math"
	"slices"
	"testing"

	"accesscontrol/api"
	"accesscontrol/boolexp"
	"accesscontrol/constraint"
	"accesscontrol/linker"
	"accesscontrol/printer"
)

// checkCompile checks what a source becomes; the zero expression if there is an error.
func checkCompile(t *testing.T, p api.Policy, e api.Expr, validate bool, want api.Expr, code api.Errno) {
	t.Helper()
	before := clone(e)
	got, err := constraint.Compile(e, p, validate)
	checkExpr(t, "Compile("+brief(e)+")", got, err, want, code)
	scribble(got)
	if !boolexp.Same(e, before) {
		t.Errorf("Compile changed %s to %s", brief(before), brief(e))
	}
}

// P17.3: names, in all contexts.
func TestCompile(t *testing.T) {
	p := policy(t, base)
	never := func(a int) api.Expr { return compare(a, api.RelDiffer, a) }
	for _, x := range []struct {
		e, want api.Expr
	}{
		{named(0, "u"), in(0, set(0))},
		{named(5, "v", "u"), in(5, set(0, 1))},
		{named(10, "v", "v"), in(10, set(1))},
		{named(1, "object_r"), in(1, set(0))},
		{named(6, "r3", "r1"), in(6, set(1, 3))},
		{named(11, "object_r", "r1", "r2", "r3"), in(11, set(0, 1, 2, 3))},
		{named(2, "a"), in(2, set(0))},
		{named(7, "d", "c"), in(7, set(1, 2))},
		{named(12, "x"), in(12, set(0, 1))},
		{named(2, "y", "b"), in(2, set(1, 2))},
		{named(2, "b", "d", "x"), in(2, set(0, 1))},
		{named(2, "none", "c"), in(2, set(2))},
		{named(2, "none"), never(2)},
		{named(7, "none", "none"), never(7)},
		{named(12, "none"), never(12)},
		{compare(3, api.RelIncomparable, 14), compare(3, api.RelIncomparable, 14)},
		{compare(5, api.RelDiffer, 10), compare(5, api.RelDiffer, 10)},
		{not(named(2, "none")), not(never(2))},
		{and(named(0, "u"), or(not(named(1, "r1")), holds())), and(in(0, set(0)), or(not(in(1, set(1))), holds()))},
		{or(named(2, "none"), named(2, "x")), or(never(2), in(2, set(0, 1)))},
		{nested(named(2, "x"), 11), nested(in(2, set(0, 1)), 11)},
	} {
		checkCompile(t, p, x.e, true, x.want, api.OK)
	}
	last := make([]api.Type, 256)
	last[255] = api.Type{Name: "last", Aliases: []string{"other", "final"}}
	p.Types = last
	checkCompile(t, p, named(2, "last"), false, in(2, api.Set{0, 0, 0, 1 << 63}), api.OK)
	checkCompile(t, p, named(2, "final"), false, in(2, api.Set{0, 0, 0, 1 << 63}), api.OK)
}

// P17.3: a name means something of the sort of the attribute alone.
func TestCompileOfMissingNames(t *testing.T) {
	p := policy(t, base)
	for _, e := range []api.Expr{
		named(0, "r1"), named(0, "a"), named(0, "x"), named(0, "w"), named(0, ""), named(0, "u", "U"),
		named(1, "u"), named(6, "a"), named(1, "d"), named(1, "object_r", "r4"),
		named(2, "u"), named(2, "object_r"), named(7, "file"), named(2, "s0"), named(2, "x", "z"), named(2, "z", "x"), named(2, "none", "z"),
	} {
		checkCompile(t, p, e, false, api.Expr{}, api.ErrNone)
		checkCompile(t, p, and(holds(), not(e)), true, api.Expr{}, api.ErrNone)
	}
}

// P17.3: the errors of malformed operators, with names in place of sets.
func TestCompileErrors(t *testing.T) {
	p := policy(t, base)
	for _, x := range malformed() {
		e := x.e
		if e.Op == api.ExprIn {
			if len(e.Names) > 0 {
				continue // where names are an error
			}
			e.Names, e.Set = []string{"a"}, api.Set{}
		}
		for _, e := range []api.Expr{e, not(e), and(e, op(99)), or(named(2, "x"), e), or(e, named(0, "z"))} {
			checkCompile(t, p, e, false, api.Expr{}, x.two)
			checkCompile(t, p, e, true, api.Expr{}, x.withThird)
		}
	}
	both := named(2, "a")
	both.Set = set(0)
	kid := named(2, "a")
	kid.Kids = []api.Expr{holds()}
	rel := named(2, "z")
	rel.Rel = 1
	for _, e := range []api.Expr{both, kid, rel, in(2, set(0)), in(2, set()), in(3, set()), in(20, set()), named(2), op(api.ExprIn), op(api.ExprNot, holds(), holds())} {
		for _, e := range []api.Expr{e, not(e), or(e, named(2, "z")), and(holds(), e)} {
			checkCompile(t, p, e, false, api.Expr{}, api.ErrArg)
			checkCompile(t, p, e, true, api.Expr{}, api.ErrArg)
		}
	}
}

// P17.3: the order of errors.
func TestCompileOrder(t *testing.T) {
	p := policy(t, base)
	lost, arg, kind, long := named(0, "z"), op(0), named(3, "z"), nested(named(0, "z"), 12)
	for _, x := range []struct {
		e         api.Expr
		two, then api.Errno
	}{
		{long, api.ErrLong, api.ErrLong},
		{nested(lost, 11), api.ErrNone, api.ErrNone},
		{and(arg, long), api.ErrLong, api.ErrLong},
		{and(lost, long), api.ErrLong, api.ErrLong},
		{and(lost, arg), api.ErrNone, api.ErrNone},
		{and(arg, lost), api.ErrArg, api.ErrArg},
		{and(lost, kind), api.ErrNone, api.ErrNone},
		{and(kind, lost), api.ErrKind, api.ErrKind},
		{and(not(not(lost)), arg), api.ErrNone, api.ErrNone},
		{op(api.ExprAnd, lost), api.ErrArg, api.ErrArg},
		{op(api.ExprOr, lost, lost, lost), api.ErrArg, api.ErrArg},
		{named(10, "z"), api.ErrRange, api.ErrNone},
		{named(13, "z"), api.ErrRange, api.ErrKind},
		{named(15, "z"), api.ErrRange, api.ErrRange},
		{named(-5, "z"), api.ErrRange, api.ErrRange},
		{named(math.MinInt, "a"), api.ErrRange, api.ErrRange},
		{and(holds(), compare(0, 0, 10)), api.ErrRange, api.OK},
	} {
		for _, validate := range []bool{false, true} {
			code, want := x.two, api.Expr{}
			if validate {
				code = x.then
			}
			if code == api.OK {
				want = x.e
			}
			checkCompile(t, p, x.e, validate, want, code)
		}
	}
}

// P17.3: example 1.
func TestExampleOfCompile(t *testing.T) {
	p := policy(t, small)
	for src, want := range map[string]api.Expr{
		"t1 in { init_t file_t }": in(api.AttrType, set(0, 2)),
		"t1 in domain":            in(api.AttrType, set(0, 1)),
		"t2 in shell_t":           in(5+api.AttrType, set(3)),
		"r1 in { object_r }":      in(api.AttrRole, set(0)),
	} {
		checkCompile(t, p, parsed(t, src), false, want, api.OK)
	}
	checkCompile(t, p, parsed(t, "t1 in nothing_t"), false, api.Expr{}, api.ErrNone)
	checkCompile(t, p, named(api.AttrLow, "init_t"), false, api.Expr{}, api.ErrKind)
}

// text picks the source of an expression.
func (pick picker) text(levels int, contexts string) string {
	if levels > 1 && pick(3) > 0 {
		x := "(" + pick.text(levels-1, contexts) + ")"
		if pick(3) == 0 {
			return "!" + x
		}
		return x + []string{" && ", " || "}[pick(2)] + pick.text(1, contexts)
	}
	of := func(letter string) string { return letter + contexts[pick(len(contexts)):][:1] }
	level := func() string { return of([]string{"l", "h"}[pick(2)]) }
	names := [][]string{{"u", "v", "{ u v }", "{ v u v }"}, {"r1", "object_r", "{ r3 r2 }", "{ r1 object_r }"}, {"a", "d", "x", "none", "{ none y }", "{ c d x }"}}
	sort := pick(4)
	switch letter := "urt"[min(sort, 2):][:1]; {
	case sort > 2:
		return level() + " " + []string{"==", "!=", "dom", "domby", "incomp"}[pick(5)] + " " + level()
	case pick(3) == 0:
		return of(letter) + []string{" == ", " != "}[pick(2)] + of(letter)
	default:
		l := names[sort]
		return of(letter) + " in " + l[pick(len(l))]
	}
}

// P17.3: the linker makes the same of the expression of a statement.
func TestCompileOfLinker(t *testing.T) {
	for seed := range 300 {
		pick := newPicker(seed)
		validate := pick(2) == 0
		head, contexts := "constrain file read ", "12"
		if validate {
			head, contexts = "validatetrans file ", "123"
		}
		src := pick.text(1+pick(5), contexts)
		p := policy(t, base+head+src+";")
		checkCompile(t, p, parsed(t, src), validate, p.Constraints[0].Expr, api.OK)
	}
}

func checkSource(t *testing.T, p api.Policy, e, want api.Expr) {
	t.Helper()
	before := clone(e)
	got := constraint.Source(e, p)
	if !boolexp.Same(got, want) {
		t.Errorf("Source(%s): got %s, want %s", brief(e), brief(got), brief(want))
	}
	scribble(got)
	if !boolexp.Same(e, before) || !boolexp.Same(constraint.Source(e, p), want) {
		t.Errorf("Source changed %s to %s, or the policy", brief(before), brief(e))
	}
}

// P17.4: names in the order of their numbers.
func TestSource(t *testing.T) {
	p := policy(t, base)
	for _, x := range []struct{ e, want api.Expr }{
		{in(0, set(1)), named(0, "v")},
		{in(10, set(1, 0)), named(10, "u", "v")},
		{in(6, set(0, 1, 2, 3)), named(6, "object_r", "r1", "r2", "r3")},
		{in(2, set(2, 1)), named(2, "b", "c")},
		{in(12, set(0, 1)), named(12, "a", "b")},
		{compare(13, api.RelDominates, 4), compare(13, api.RelDominates, 4)},
		{fails(), fails()},
		{or(not(in(2, set(0))), and(in(1, set(2)), holds())), or(not(named(2, "a")), and(named(1, "r2"), holds()))},
		{nested(in(2, set(1)), 11), nested(named(2, "b"), 11)},
	} {
		checkSource(t, p, x.e, x.want)
	}
	p.Types = []api.Type{255: {Name: "last"}}
	checkSource(t, p, in(2, api.Set{0, 0, 0, 1 << 63}), named(2, "last"))
}

// P17.4: there is no source of an expression that Check refuses where three contexts are permitted.
func TestSourceOfOthers(t *testing.T) {
	p := policy(t, base)
	for _, x := range append(malformed(), wrongSets()...) {
		if x.withThird != api.OK {
			for _, e := range []api.Expr{x.e, not(x.e), and(holds(), x.e)} {
				checkSource(t, p, e, api.Expr{})
			}
		}
	}
	for _, e := range []api.Expr{{}, named(2, "a"), nested(in(2, set(1)), 12), nested(holds(), 60000)} {
		checkSource(t, p, e, api.Expr{})
	}
}

// P17.4: what Source returns can be written as a source.
func TestSourceIsPrinted(t *testing.T) {
	p := policy(t, base)
	for seed := range 500 {
		e := newPicker(seed).expr(5, 3)
		text, code := printer.Constraint(constraint.Source(e, p), true)
		if code != api.OK {
			t.Fatalf("Source(%s) cannot be printed: %v", brief(e), code)
		}
		checkCompile(t, p, parsed(t, text), true, e, api.OK)
	}
}

// P17.3, P17.4: neither writes to the policy, or keeps a part of it.
func TestPolicyIsKept(t *testing.T) {
	p := policy(t, base)
	e, code := constraint.Compile(or(named(2, "x", "none"), named(0, "u")), p, false)
	s := constraint.Source(in(2, set(0, 1)), p)
	scribble(e)
	scribble(s)
	if code != api.OK || linker.Check(p) != api.OK || p.Types[0].Name != "a" || !slices.Equal(p.Types[1].Aliases, []string{"d"}) || p.Users[0].Name != "u" {
		t.Errorf("the policy was changed: %v", p)
	}
}
