package condition_test

import (
	"math"
	"slices"
	"strconv"
	"testing"

	"accesscontrol/api"
	"accesscontrol/condition"
)

// P18.1: State.
func TestState(t *testing.T) {
	checkList(t, "State", condition.State(ab()), []bool{false, true})
	checkList(t, "State", condition.State(policy(t, 0, 0)), nil)
	for n := range 64 {
		checkList(t, "State", condition.State(policy(t, 6, n)), bits(6, n))
	}
	checkList(t, "State", condition.State(policy(t, 16, 0xa5c3)), bits(16, 0xa5c3))
	p := ab()
	state := condition.State(p)
	state[0] = true
	if p.Bools[0].Value || condition.State(p)[0] {
		t.Errorf("the policy was changed")
	}
}

// P18.1: Numbered, in two's complement.
func TestNumbered(t *testing.T) {
	for _, x := range []struct {
		bools, n int
		want     []bool
	}{
		{0, 5, nil},
		{1, 0, []bool{false}},
		{2, 1, []bool{true, false}},
		{2, 2, []bool{false, true}},
		{2, 7, []bool{true, true}},
		{2, -1, []bool{true, true}},
		{3, -2, []bool{false, true, true}},
		{3, -8, []bool{false, false, false}},
		{3, -7, []bool{true, false, false}},
		{16, math.MaxInt, bits(16, 0xffff)},
		{16, math.MinInt, bits(16, 0)},
		{16, math.MinInt + 5, bits(16, 5)},
		{16, 1 << 15, bits(16, 1<<15)},
		{16, 1 << 16, bits(16, 0)},
		{16, -1 << 15, bits(16, 1<<15)},
	} {
		checkList(t, "Numbered "+strconv.Itoa(x.n), condition.Numbered(policy(t, x.bools, 0), x.n), x.want)
	}
	for n := -200; n < 200; n++ {
		checkList(t, "Numbered "+strconv.Itoa(n), condition.Numbered(policy(t, 5, 9), n), bits(5, n))
	}
}

// P18.1: Set.
func TestSet(t *testing.T) {
	yes, no := func(s string) api.Bool { return api.Bool{Name: s, Value: true} }, func(s string) api.Bool { return api.Bool{Name: s} }
	p := policy(t, 3, 2)
	for _, x := range []struct {
		state []bool
		l     []api.Bool
		want  []bool
		code  api.Errno
	}{
		{nil, nil, []bool{false, false, false}, api.OK}, // the values of the policy play no part
		{[]bool{true}, nil, []bool{true, false, false}, api.OK},
		{[]bool{true, false, true}, nil, []bool{true, false, true}, api.OK},
		{[]bool{true, true, true, true, true}, []api.Bool{no("b1")}, []bool{true, false, true}, api.OK},
		{[]bool{true}, []api.Bool{yes("b2"), no("b0")}, []bool{false, false, true}, api.OK},
		{nil, []api.Bool{yes("b0"), yes("b1"), no("b0")}, []bool{false, true, false}, api.OK},
		{nil, []api.Bool{no("b0"), yes("b1"), yes("b0")}, []bool{true, true, false}, api.OK},
		{nil, []api.Bool{no("b3")}, nil, api.ErrNone},
		{nil, []api.Bool{yes("b0"), yes("")}, nil, api.ErrNone},
		{[]bool{true}, []api.Bool{yes("B0"), yes("b0")}, nil, api.ErrNone},
	} {
		before := slices.Clone(x.state)
		got, code := condition.Set(p, x.state, x.l)
		if code != x.code {
			t.Errorf("Set(%v, %v): got %v, want %v", x.state, x.l, code, x.code)
		}
		checkList(t, "Set", got, x.want)
		for i := range got {
			got[i] = !got[i]
		}
		checkList(t, "the state", x.state, before)
	}
	if got, code := condition.Set(policy(t, 0, 0), []bool{true}, nil); len(got) != 0 || code != api.OK {
		t.Errorf("got %v, %v", got, code)
	}
	if got, code := condition.Set(policy(t, 0, 0), nil, []api.Bool{{}}); got != nil || code != api.ErrNone {
		t.Errorf("got %v, %v", got, code)
	}
}

// P18.1: what Set changes is the last value of each boolean.
func TestModelOfSet(t *testing.T) {
	for seed := range 500 {
		pick := newPicker(seed)
		p := pick.policy(t)
		state, want := pick.state(p)
		var l []api.Bool
		for range pick(8) {
			n, value := pick(len(p.Bools)), pick(2) == 0
			l = append(l, api.Bool{Name: p.Bools[n].Name, Value: value})
			want[n] = value
		}
		got, code := condition.Set(p, state, l)
		checkList(t, "Set", got, want)
		if code != api.OK {
			t.Errorf("got %v", code)
		}
		checkList(t, "Set of the booleans", set(t, p, nil, p.Bools), condition.State(p))
	}
}

func set(t *testing.T, p api.Policy, state []bool, l []api.Bool) []bool {
	t.Helper()
	got, code := condition.Set(p, state, l)
	if code != api.OK {
		t.Errorf("Set(%v): got %v", l, code)
	}
	return got
}

// P18.2: the values of each operator, in states of any length.
func TestValues(t *testing.T) {
	a, b := number(0), number(1)
	p := policy(t, 2, 0, a, b, not(a), and(a, b), or(a, b), op(api.ExprXor, a, b), op(api.ExprSame, a, b), op(api.ExprDiffer, a, b), and(a, not(a)))
	for _, x := range []struct {
		state []bool
		want  string
	}{
		{[]bool{false, false}, "001000100"},
		{[]bool{true, false}, "100011010"},
		{[]bool{false, true}, "011011010"},
		{[]bool{true, true}, "110110100"},
		{nil, "001000100"},
		{[]bool{true}, "100011010"},
		{[]bool{false, true, true, true}, "011011010"},
	} {
		var want []bool
		for _, c := range x.want {
			want = append(want, c == '1')
		}
		checkList(t, "Values", condition.Values(p, x.state), want)
	}
	checkList(t, "Values", condition.Values(policy(t, 2, 0), []bool{true, true}), nil)
	deep := policy(t, 16, 0, nested(number(15), 11))
	checkList(t, "Values", condition.Values(deep, nil), []bool{true})
	checkList(t, "Values", condition.Values(deep, bits(16, 1<<15)), []bool{false})
	checkList(t, "Values", condition.Values(deep, bits(15, 1<<15-1)), []bool{true})
}

// P18.2: Active.
func TestActive(t *testing.T) {
	p := policy(t, 2, 0, number(0), number(1))
	for _, x := range []struct {
		state []bool
		cond  int
		want  bool
	}{
		{nil, 0, true}, {nil, 1, false}, {nil, -1, true}, {nil, 2, false}, {nil, -2, true},
		{[]bool{true, false}, 0, true}, {[]bool{true, false}, 1, true}, {[]bool{true, false}, -1, false}, {[]bool{true, false}, 2, false}, {[]bool{true, false}, -2, true},
		{[]bool{false, true}, 1, false}, {[]bool{false, true}, -1, true}, {[]bool{false, true}, 2, true}, {[]bool{false, true}, -2, false},
		{[]bool{true, true, true}, 3, false}, {[]bool{true, true, true}, -3, false}, {nil, 3, false}, {nil, -3, false},
		{nil, math.MaxInt, false}, {nil, math.MinInt, false}, {nil, math.MinInt + 1, false},
	} {
		if got := condition.Active(p, x.state, x.cond); got != x.want {
			t.Errorf("Active(%v, %d): got %v", x.state, x.cond, got)
		}
	}
	for _, cond := range []int{1, -1, math.MinInt} {
		if condition.Active(policy(t, 2, 0), nil, cond) || !condition.Active(policy(t, 2, 0), nil, 0) {
			t.Errorf("Active of %d without conditions", cond)
		}
	}
}

// P18.2: values are those of the definition.
func TestModelOfValues(t *testing.T) {
	count := map[bool]int{}
	for seed := range 3000 {
		pick := newPicker(seed)
		p := pick.policy(t)
		state, full := pick.state(p)
		var want []bool
		for n, e := range p.Conds {
			value := model(e, full)
			want = append(want, value)
			count[value]++
			if condition.Active(p, state, n+1) != value || condition.Active(p, state, -n-1) == value {
				t.Errorf("Active of the condition %d of %s in %v", n, brief(p.Conds), state)
			}
		}
		checkList(t, "Values", condition.Values(p, state), want)
	}
	if min(count[false], count[true]) < 1000 {
		t.Errorf("got %v", count)
	}
}

// rules returns a policy with a rule for each kind and Cond.
func rules(t *testing.T, p api.Policy, l ...[2]int) api.Policy {
	t.Helper()
	for _, x := range l {
		p.Rules = append(p.Rules, api.Rule{Kind: x[0], Source: api.Set{1}, Target: api.Set{1}, Perms: 1, Cond: x[1]})
	}
	return p
}

// P18.3: Rules.
func TestRules(t *testing.T) {
	p := rules(t, policy(t, 2, 0, number(0), and(number(0), number(1))),
		[2]int{api.RuleAllow, 0}, [2]int{api.RuleAllow, 1}, [2]int{api.RuleAuditAllow, 1}, [2]int{api.RuleAllow, -1}, [2]int{api.RuleDontAudit, 2},
		[2]int{api.RuleAllow, -2}, [2]int{api.RuleNeverAllow, 0}, [2]int{api.RuleAllow, 2}, [2]int{api.RuleDontAudit, -2}, [2]int{api.RuleAllow, 0})
	for _, x := range []struct {
		state []bool
		kind  int
		want  []int
	}{
		{nil, api.RuleAllow, []int{0, 3, 5, 9}},
		{[]bool{true}, api.RuleAllow, []int{0, 1, 5, 9}},
		{[]bool{true, true, true}, api.RuleAllow, []int{0, 1, 7, 9}},
		{[]bool{false, true}, api.RuleAllow, []int{0, 3, 5, 9}},
		{nil, api.RuleAuditAllow, nil},
		{[]bool{true}, api.RuleAuditAllow, []int{2}},
		{[]bool{true}, api.RuleDontAudit, []int{8}},
		{[]bool{true, true}, api.RuleDontAudit, []int{4}},
		{[]bool{true, true}, api.RuleNeverAllow, []int{6}},
		{nil, 0, nil}, {nil, 5, nil}, {nil, -1, nil}, {nil, math.MinInt, nil},
	} {
		checkList(t, "Rules", condition.Rules(p, x.state, x.kind), x.want)
	}
	checkList(t, "Rules", condition.Rules(policy(t, 2, 0), nil, api.RuleAllow), nil)
}

// P18.3: the rules are those whose Cond is active.
func TestModelOfRules(t *testing.T) {
	found := 0
	for seed := range 500 {
		pick := newPicker(seed)
		p := pick.policy(t)
		for range pick(30) {
			p = rules(t, p, [2]int{1 + pick(4), pick(2*len(p.Conds)+1) - len(p.Conds)})
		}
		state, full := pick.state(p)
		for kind := range 6 {
			var want []int
			for i, r := range p.Rules {
				if r.Kind == kind && (r.Cond == 0 || r.Cond > 0 && model(p.Conds[max(r.Cond, 1)-1], full) || r.Cond < 0 && !model(p.Conds[max(-r.Cond, 1)-1], full)) {
					want = append(want, i)
				}
			}
			checkList(t, "Rules", condition.Rules(p, state, kind), want)
			found += len(want)
		}
	}
	if found < 2000 {
		t.Errorf("only %d rules are active", found)
	}
}

// P18.7: exactly one of the conds n and -n is active.
func TestOneOfBoth(t *testing.T) {
	for seed := range 300 {
		pick := newPicker(seed)
		p := pick.policy(t)
		for number := range 1 << len(p.Bools) {
			for n := 1; n <= len(p.Conds); n++ {
				state := condition.Numbered(p, number)
				if condition.Active(p, state, n) == condition.Active(p, state, -n) {
					t.Errorf("%d and %d are both the same in %v", n, -n, state)
				}
			}
		}
	}
}

// P18.1, P18.2: the examples of the chapter.
func TestExamples(t *testing.T) {
	p := ab()
	state := condition.State(p)
	checkList(t, "State", state, []bool{false, true})
	if condition.Active(p, state, 1) || !condition.Active(p, state, -1) {
		t.Errorf("the condition is true")
	}
	checkList(t, "States", condition.States(p, 0, true), []int{1})
	checkList(t, "States", condition.States(p, 0, false), []int{0, 2, 3})
	checkList(t, "Set", set(t, p, []bool{false, true}, []api.Bool{{Name: "a", Value: true}, {Name: "a"}}), state)
}
