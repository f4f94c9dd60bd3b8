package condition_test

import (
	"math"
	"slices"
	"strings"
	"testing"

	"accesscontrol/api"
	"accesscontrol/boolexp"
	"accesscontrol/condition"
	"accesscontrol/linker"
	"accesscontrol/syntax"
)

func parsed(t *testing.T, src string) api.Expr {
	t.Helper()
	e, f := boolexp.Parse(src)
	if f.Code != api.OK {
		t.Fatalf("Parse(%q): got %v", src, f)
	}
	return e
}

// checkCompile checks what the condition of a source becomes; the zero expression if there is an error.
func checkCompile(t *testing.T, p api.Policy, e, want api.Expr, code api.Errno) {
	t.Helper()
	before := clone(e)
	got, err := condition.Compile(e, p)
	checkExpr(t, "Compile "+brief(e), got, want)
	if err != code {
		t.Errorf("Compile(%s): got %v, want %v", brief(e), err, code)
	}
	scribble(got)
	checkExpr(t, "the argument of Compile", e, before)
}

func checkSource(t *testing.T, p api.Policy, e, want api.Expr) {
	t.Helper()
	before, bools := clone(e), slices.Clone(p.Bools)
	got := condition.Source(e, p)
	checkExpr(t, "Source "+brief(e), got, want)
	scribble(got)
	checkExpr(t, "the argument of Source", e, before)
	checkList(t, "the booleans", p.Bools, bools)
}

// P18.5: both directions.
func TestCompileAndSource(t *testing.T) {
	p := policy(t, 12, 0)
	b := func(n int) api.Expr { return number(n) }
	for src, want := range map[string]api.Expr{
		"b0":                      b(0),
		"b11":                     b(11),
		"!b1":                     not(b(1)),
		"b1 && b0":                and(b(1), b(0)),
		"b2 || b2":                or(b(2), b(2)),
		"b3 ^ b1":                 op(api.ExprXor, b(3), b(1)),
		"b0 == b10":               op(api.ExprSame, b(0), b(10)),
		"b1 != !b9":               op(api.ExprDiffer, b(1), not(b(9))),
		"b1 && (b2 || !b3) && b4": and(and(b(1), or(b(2), not(b(3)))), b(4)),
		"!!!!!!!!!!!b7":           nested(b(7), 11),
	} {
		checkCompile(t, p, parsed(t, src), want, api.OK)
		checkSource(t, p, want, parsed(t, src))
	}
	checkCompile(t, ab(), parsed(t, "a && !b"), ab().Conds[0], api.OK)
	checkSource(t, ab(), ab().Conds[0], parsed(t, "a && !b"))
}

// P18.5: the error of boolexp.Check comes ahead of a name that is missing.
func TestCompileErrors(t *testing.T) {
	p := policy(t, 2, 0)
	ok, lost := name("b1"), name("b2")
	for _, x := range []struct {
		e    api.Expr
		code api.Errno
	}{
		{lost, api.ErrNone},
		{name("B0"), api.ErrNone},
		{nested(lost, 11), api.ErrNone},
		{and(ok, not(lost)), api.ErrNone},
		{and(lost, ok), api.ErrNone},
		{name(""), api.ErrName},
		{name("if"), api.ErrName},
		{and(lost, name("0")), api.ErrName},
		{and(lost, name(strings.Repeat("n", 33))), api.ErrName},
		{nested(lost, 12), api.ErrLong},
		{and(lost, nested(ok, 11)), api.ErrLong},
		{nested(ok, 60000), api.ErrLong},
		{api.Expr{}, api.ErrArg},
		{number(0), api.ErrArg},
		{api.Expr{Op: api.ExprName, A: 1, Names: []string{"b1"}}, api.ErrArg},
		{api.Expr{Op: api.ExprName, Names: []string{"b1", "b0"}}, api.ErrArg},
		{and(lost, api.Expr{}), api.ErrArg},
		{op(api.ExprAnd, ok), api.ErrArg},
		{op(api.ExprNot, ok, ok), api.ErrArg},
		{op(api.ExprCompare), api.ErrArg},
		{op(api.ExprIn, ok, lost), api.ErrArg},
		{op(math.MinInt, ok), api.ErrArg},
	} {
		checkCompile(t, p, x.e, api.Expr{}, x.code)
	}
	checkCompile(t, policy(t, 0, 0), ok, api.Expr{}, api.ErrNone)
}

// notConditions are expressions that no policy with two booleans has.
func notConditions() []api.Expr {
	l := []api.Expr{{}, number(2), number(-1), number(math.MinInt), number(math.MaxInt), name("b0"), nested(number(0), 12), nested(number(0), 60000)}
	for _, n := range []int{api.ExprName, api.ExprNot, api.ExprAnd, api.ExprOr, api.ExprXor, api.ExprSame, api.ExprDiffer, api.ExprCompare, api.ExprIn, 0, -1, 10, math.MaxInt} {
		for kids := range 4 {
			count := map[int]int{api.ExprName: 0, api.ExprNot: 1, api.ExprAnd: 2, api.ExprOr: 2, api.ExprXor: 2, api.ExprSame: 2, api.ExprDiffer: 2}
			e := op(n, slices.Repeat([]api.Expr{number(1)}, kids)...)
			if c, ok := count[n]; !ok || c != kids {
				l = append(l, e)
			}
			for _, change := range []func(*api.Expr){
				func(e *api.Expr) { e.Rel = 1 }, func(e *api.Expr) { e.B = -1 }, func(e *api.Expr) { e.Names = []string{"b0"} }, func(e *api.Expr) { e.Set[2] = 1 },
				func(e *api.Expr) { e.A = 2 },
			} {
				bad := e
				change(&bad)
				l = append(l, bad)
			}
		}
	}
	return l
}

// P18.5: Source of what is not a condition of the policy.
func TestSourceOfOthers(t *testing.T) {
	p := policy(t, 2, 0)
	for _, bad := range notConditions() {
		for _, e := range []api.Expr{bad, not(bad), and(number(0), bad), op(api.ExprSame, bad, number(1))} {
			checkSource(t, p, e, api.Expr{})
		}
		p.Conds = []api.Expr{bad}
		if linker.Check(p) == api.OK {
			t.Errorf("the linker accepts %s", brief(bad))
		}
	}
	checkSource(t, policy(t, 0, 0), number(0), api.Expr{})
}

// P18.5: there and back.
func TestBack(t *testing.T) {
	for seed := range 2000 {
		pick := newPicker(seed)
		bools := 1 + pick(16)
		p, e := policy(t, bools, 0), pick.cond(1+pick(6), bools)
		source := condition.Source(e, p)
		if code := boolexp.Check(source); code != api.OK {
			t.Errorf("Source(%s): got %s, %v", brief(e), brief(source), code)
		}
		checkCompile(t, p, source, e, api.OK)
		compiled, _ := condition.Compile(source, p)
		checkSource(t, p, compiled, source)
	}
}

// P18.5: the linker makes the same of the condition of a statement.
func TestCompileOfLinker(t *testing.T) {
	const head = "class file { read }; type a; bool b0 true; bool b1 false; bool b2 true; "
	for seed := range 200 {
		text, code := boolexp.Text(condition.Source(newPicker(seed).cond(5, 3), policy(t, 3, 0)))
		l, f := syntax.Statements(head + "if " + text + " { allow a a : file read; }")
		p, _, fault := linker.Link([]api.Module{{Name: "m", Stmts: l}})
		if code != api.OK || f.Code != api.OK || fault.Code != api.OK {
			t.Fatalf("%q: got %v, %v, %v", text, code, f, fault)
		}
		checkCompile(t, p, parsed(t, text), p.Conds[0], api.OK)
	}
}

// P18.6: the value of a compiled condition is that of boolexp.
func TestSameValues(t *testing.T) {
	count := map[bool]int{}
	for seed := range 1000 {
		pick := newPicker(seed)
		p := pick.policy(t)
		state, full := pick.state(p)
		var bools []api.Bool
		for i, b := range p.Bools {
			bools = append(bools, api.Bool{Name: b.Name, Value: full[i]})
		}
		e := condition.Source(pick.cond(6, len(p.Bools)), p)
		want, code := boolexp.Eval(e, bools)
		compiled, err := condition.Compile(e, p)
		p.Conds = append(p.Conds, compiled)
		values := condition.Values(p, state)
		if code != api.OK || err != api.OK || values[len(values)-1] != want {
			t.Errorf("the value of %s in %v: got %v, %v, %v", brief(e), state, values, code, err)
		}
		count[want]++
	}
	if min(count[false], count[true]) < 300 {
		t.Errorf("got %v", count)
	}
}

// P1: any policies end without a panic.
func TestAnyPolicy(t *testing.T) {
	self := []api.Expr{and(number(0), number(1))}
	self[0].Kids[0] = self[0]
	conds := append(notConditions(), self[0], number(70), and(number(0), number(63)))
	for _, bools := range []int{0, 2, 64, 100, 1000} {
		p := api.Policy{Bools: make([]api.Bool, bools), Conds: conds, Rules: []api.Rule{{Cond: 1}, {Cond: math.MinInt}, {Cond: math.MaxInt}, {Cond: -len(conds)}}}
		for _, state := range [][]bool{nil, {true}, make([]bool, 2000)} {
			if got := condition.Values(p, state); len(got) != len(conds) {
				t.Errorf("got %d values", len(got))
			}
			condition.Rules(p, state, 0)
			condition.Set(p, state, []api.Bool{{}, {}})
		}
		for n, e := range conds {
			condition.Active(p, nil, n+1)
			condition.Active(p, nil, -n-1)
			if len(condition.States(p, n, true)) > 1024 || len(condition.States(p, n, false)) > 1024 {
				t.Errorf("too many states")
			}
			condition.Source(e, p)
			condition.Compile(e, p)
		}
		if len(condition.State(p)) != bools || len(condition.Numbered(p, -1)) != bools {
			t.Errorf("the state has not %d elements", bools)
		}
	}
}
