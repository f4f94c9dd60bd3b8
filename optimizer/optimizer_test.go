package optimizer_test

import (
	"math"
	"slices"
	"testing"

	"accesscontrol/api"
	"accesscontrol/bitset"
	"accesscontrol/optimizer"
)

// P24.1: what rules give, whatever rules give it.
func TestSameRules(t *testing.T) {
	l := func(l ...api.Rule) []api.Rule { return l }
	for _, c := range []struct {
		a, b []api.Rule
		want bool
	}{
		{nil, nil, true},
		{nil, l(allow("a", "b", "r", 0)), false},
		{l(allow("a", "b", "r", 0)), l(allow("a", "b", "r", 0)), true},
		{l(allow("a", "b", "r", 0), allow("c", "d", "w", x)), l(allow("c", "d", "w", x), allow("a", "b", "r", 0), allow("a", "b", "r", 0)), true},
		{l(allow("a", "b", "rw", 0)), l(allow("a", "b", "r", 0), allow("a", "b", "w", 0)), true},
		{l(allow("a", "b", "rw", 0)), l(allow("a", "b", "r", 0), allow("a", "b", "c", 0)), false},
		{l(allow("ab", "cd", "r", 0)), l(allow("a", "c", "r", 0), allow("b", "c", "r", 0), allow("ab", "d", "r", 0)), true},
		{l(allow("ab", "cd", "r", 0)), l(allow("a", "c", "r", 0), allow("b", "d", "r", 0)), false},
		{l(allow("a", "b", "r", 0)), l(allow("b", "a", "r", 0)), false},
		{l(allow("a", "b", "r", 0)), l(class(0, allow("a", "b", "r", 0))), false},
		// Self.
		{l(allow("ab", "s", "r", 0)), l(allow("a", "a", "r", 0), allow("b", "b", "r", 0)), true},
		{l(allow("ab", "s", "r", 0)), l(allow("ab", "ab", "r", 0)), false},
		{l(allow("ab", "abs", "r", 0)), l(allow("ab", "ab", "r", 0)), true},
		{l(allow("ab", "bs", "r", 0)), l(allow("a", "ab", "r", 0), allow("b", "b", "r", 0)), true},
		// Kinds.
		{l(kind(api.RuleAuditAllow, allow("a", "b", "r", 0))), l(kind(api.RuleDontAudit, allow("a", "b", "r", 0))), false},
		{l(kind(api.RuleNeverAllow, allow("a", "b", "r", 0))), l(allow("a", "b", "r", 0)), false},
		{l(kind(api.RuleNeverAllow, allow("a", "b", "rw", 0))), l(kind(api.RuleNeverAllow, allow("a", "b", "r", 0)), kind(api.RuleNeverAllow, allow("a", "b", "w", 0))), true},
		{l(kind(api.RuleNeverAllow, allow("a", "b", "r", 0))), nil, false},
		// Conditions.
		{l(allow("a", "b", "r", x)), l(allow("a", "b", "r", 0)), false},
		{l(allow("a", "b", "r", x)), l(allow("a", "b", "r", y)), false},
		{l(allow("a", "b", "r", x)), l(allow("a", "b", "r", -x)), false},
		{l(allow("a", "b", "r", always)), l(allow("a", "b", "r", 0)), true},
		{l(allow("a", "b", "r", never)), nil, true},
		{l(allow("a", "b", "r", -always)), nil, true},
		{l(allow("a", "b", "r", -never)), l(allow("a", "b", "r", 0)), true},
		{l(allow("a", "b", "r", x), allow("a", "b", "r", -x)), l(allow("a", "b", "r", 0)), true},
		{l(allow("a", "b", "r", x), allow("a", "b", "r", y)), l(allow("a", "b", "r", xOrY)), true},
		{l(allow("a", "b", "r", x), allow("a", "b", "r", y)), l(allow("a", "b", "r", xOrY), allow("a", "b", "r", xAndY)), true},
		{l(allow("a", "b", "r", x), allow("a", "b", "r", y)), l(allow("a", "b", "r", -xSameY)), false},
		{l(allow("a", "b", "r", x), allow("a", "b", "r", y)), l(allow("a", "b", "r", -xSameY), allow("a", "b", "r", xAndY)), true},
		{l(allow("a", "b", "rw", x), allow("a", "b", "rc", y)), l(allow("a", "b", "r", xOrY), allow("a", "b", "w", x), allow("a", "b", "c", y)), true},
		{l(allow("a", "bc", "r", x), allow("a", "cd", "r", -x)), l(allow("a", "c", "r", 0), allow("a", "b", "r", x), allow("a", "d", "r", -x)), true},
		{l(allow("a", "bc", "r", x), allow("a", "cd", "r", -x)), l(allow("a", "c", "r", 0), allow("a", "b", "r", x), allow("a", "d", "r", x)), false},
	} {
		a, b := withRules(c.a...), withRules(c.b...)
		checkValid(t, a)
		checkValid(t, b)
		if optimizer.Same(a, b) != c.want || optimizer.Same(b, a) != c.want {
			t.Errorf("%v and %v: want %v", c.a, c.b, c.want)
		}
	}
}

// P24.1: transitions, without those that are active in no state, are equal one by one, and active in the same states.
func TestSameTransitions(t *testing.T) {
	one := func(cond int) api.Trans {
		return api.Trans{Kind: api.TransCreate, Source: set("a"), Target: set("b"), Class: 1, Name: "log", Result: 2, Cond: cond}
	}
	two := func(cond int) api.Trans {
		return api.Trans{Kind: api.TransChange, Source: set("a"), Target: set("b"), Class: 1, Result: 2, Cond: cond}
	}
	l := func(l ...api.Trans) []api.Trans { return l }
	type pair struct {
		a, b []api.Trans
		want bool
	}
	cases := []pair{
		{nil, nil, true},
		{nil, l(one(0)), false},
		{l(one(0)), l(one(0)), true},
		{l(one(0), two(x)), l(one(0), two(x)), true},
		{l(one(0), two(x)), l(two(x), one(0)), false},
		{l(one(0), one(0)), l(one(0)), false},
		{l(one(x)), l(one(0)), false},
		{l(one(x)), l(one(-x)), false},
		{l(one(x), one(-x)), l(one(0)), false},
		{l(one(always), two(-never)), l(one(0), two(0)), true},
		{l(one(never)), nil, true},
		{l(one(never), two(0), one(-always), one(y)), l(two(0), one(never), one(y), two(never)), true},
		{l(one(x)), l(one(xOrY)), false},
		{l(one(xOrY)), l(one(x)), false},
	}
	for _, change := range []func(*api.Trans){
		func(t *api.Trans) { t.Kind = api.TransMember }, func(t *api.Trans) { t.Source = set("ab") }, func(t *api.Trans) { t.Target = set("ab") },
		func(t *api.Trans) { t.Class = 0 }, func(t *api.Trans) { t.Result = 3 },
	} {
		other := two(y)
		change(&other)
		cases = append(cases, pair{l(two(y)), l(other), false})
	}
	named := one(y)
	named.Name = "tmp"
	cases = append(cases, pair{l(one(y)), l(named), false})
	for _, c := range cases {
		a, b := withRules(), withRules()
		a.Trans, b.Trans = c.a, c.b
		checkValid(t, a)
		checkValid(t, b)
		if optimizer.Same(a, b) != c.want || optimizer.Same(b, a) != c.want {
			t.Errorf("%v and %v: want %v", c.a, c.b, c.want)
		}
	}
}

// P24.1: conditions by themselves make no difference, and each policy has its own.
func TestSameConditions(t *testing.T) {
	a := policy(number(0), and(number(1), number(2)))
	b := policy(not(number(0)), number(1), not(or(not(number(2)), not(number(1)))))
	a.Rules = []api.Rule{allow("a", "b", "r", 1), allow("c", "d", "w", 2)}
	b.Rules = []api.Rule{allow("c", "d", "w", 3), allow("a", "b", "r", -1)}
	a.Trans = []api.Trans{{Kind: api.TransCreate, Source: set("a"), Target: set("b"), Cond: 2}}
	b.Trans = []api.Trans{{Kind: api.TransCreate, Source: set("a"), Target: set("b"), Cond: 3}}
	if !optimizer.Same(a, b) || !optimizer.Same(b, a) {
		t.Error("policies with other conditions are not the same")
	}
	b.Conds[2] = number(1)
	if optimizer.Same(a, b) || optimizer.Same(b, a) {
		t.Error("the last condition is another one")
	}
	b.Conds[2], b.Trans[0].Cond = and(number(2), number(1)), 2
	if optimizer.Same(a, b) || optimizer.Same(b, a) {
		t.Error("the transition has another condition")
	}
	if !optimizer.Same(policy(), policy(xyz()...)) {
		t.Error("conditions of nothing make a difference")
	}
	// What one condition means, several ones may mean together.
	a, b = policy(or(number(0), number(1))), policy(number(1), number(0), number(2))
	a.Rules = []api.Rule{allow("a", "b", "r", 1)}
	b.Rules = []api.Rule{allow("a", "b", "r", 1), allow("a", "b", "r", 2)}
	if !optimizer.Same(a, b) || !optimizer.Same(b, a) {
		t.Error("x || y is not x together with y")
	}
	b.Rules[1].Cond = 3
	if optimizer.Same(a, b) || optimizer.Same(b, a) {
		t.Error("x || y is y together with z")
	}
}

// P24.1: all other lists are equal.
func TestSameFrames(t *testing.T) {
	for i, change := range []func(p *api.Policy){
		func(p *api.Policy) { p.Classes[0].Name = "z" }, func(p *api.Policy) { p.Classes[0].Perms = append(p.Classes[0].Perms, "z") },
		func(p *api.Policy) { p.Types[0].Name = "z" }, func(p *api.Policy) { p.Types[0].Aliases = nil }, func(p *api.Policy) { p.Types[0].Permissive = true },
		func(p *api.Policy) { p.Types = append(p.Types, api.Type{Name: "z"}) },
		func(p *api.Policy) { p.Attrs[0].Types = set("a") }, func(p *api.Policy) { p.Roles[1].Next = api.Set{} }, func(p *api.Policy) { p.Users[0].Range.High.Sens = 0 },
		func(p *api.Policy) { p.Bools[0].Value = true }, func(p *api.Policy) { p.Bools = append(p.Bools, api.Bool{Name: "z0"}) }, func(p *api.Policy) { p.Sens[1] = "z" }, func(p *api.Policy) { p.Cats[0] = "z" },
		func(p *api.Policy) { p.RoleTrans = nil }, func(p *api.Policy) { p.Ranges[0].Target = set("ab") }, func(p *api.Policy) { p.Constraints[0].Expr.Kids[0].Set = set("a") },
		func(p *api.Policy) { p.Sids[0].Name = "z" }, func(p *api.Policy) { p.Files[0].Kind = api.FileLink }, func(p *api.Policy) { p.Asserts[0].Target = set("ab") },
	} {
		a, b := withRules(allow("a", "b", "r", x)), withRules(allow("a", "b", "r", x))
		if !optimizer.Same(a, b) {
			t.Fatal("equal policies are not the same")
		}
		change(&b)
		checkValid(t, b)
		if optimizer.Same(a, b) || optimizer.Same(b, a) {
			t.Errorf("the change %d makes no difference", i)
		}
	}
	a, b := withRules(), withRules()
	b.Rules, b.Trans, b.Types[1].Aliases = []api.Rule{}, []api.Trans{}, []string{}
	if !optimizer.Same(a, b) {
		t.Error("nil and empty lists are not the same")
	}
}

// P24.2: Without.
func TestWithout(t *testing.T) {
	rules := []api.Rule{allow("a", "b", "r", 0), allow("b", "c", "r", x), allow("c", "d", "r", -x), allow("d", "a", "r", never)}
	for _, c := range []struct {
		l    []int
		left []int
	}{
		{nil, []int{0, 1, 2, 3}}, {[]int{}, []int{0, 1, 2, 3}}, {[]int{1}, []int{0, 2, 3}}, {[]int{3, 0}, []int{1, 2}}, {[]int{2, 2, 2}, []int{0, 1, 3}},
		{[]int{0, 1, 2, 3}, nil}, {[]int{-1, 4, math.MaxInt, math.MinInt, 256}, []int{0, 1, 2, 3}}, {[]int{-1, 1, 4}, []int{0, 2, 3}},
	} {
		p, want := withRules(rules...), withRules()
		p.Trans = []api.Trans{{Kind: api.TransCreate, Source: set("a"), Target: set("b"), Cond: never}}
		want.Trans = slices.Clone(p.Trans)
		for _, n := range c.left {
			want.Rules = append(want.Rules, rules[n])
		}
		l := slices.Clone(c.l)
		if got := optimizer.Without(p, l); !same(got, want) {
			t.Errorf("Without %v: got %s", c.l, brief(got))
		}
		if !slices.Equal(l, c.l) {
			t.Errorf("%v has become %v", c.l, l)
		}
	}
}

// P24.2: Redundant.
func TestRedundant(t *testing.T) {
	for _, c := range []struct {
		rules []api.Rule
		want  []int
	}{
		{nil, nil},
		{[]api.Rule{allow("a", "b", "r", 0)}, nil},
		{[]api.Rule{allow("a", "b", "r", 0), allow("a", "b", "r", 0), allow("a", "b", "r", 0)}, []int{0, 1}},
		{[]api.Rule{allow("a", "b", "rw", 0), allow("a", "b", "r", 0)}, []int{1}},
		{[]api.Rule{allow("a", "b", "r", x), allow("a", "b", "r", 0)}, []int{0}},
		{[]api.Rule{allow("a", "b", "r", 0), allow("a", "b", "r", x), allow("a", "b", "r", -y)}, []int{1, 2}},
		// What was taken does not count: of two that give the same, the second one remains.
		{[]api.Rule{allow("ab", "c", "r", 0), allow("a", "c", "r", 0), allow("b", "c", "r", 0)}, []int{0}},
		{[]api.Rule{allow("a", "c", "r", 0), allow("ab", "c", "r", 0), allow("b", "c", "r", 0)}, []int{0, 2}},
		{[]api.Rule{allow("a", "b", "rw", 0), allow("a", "b", "wc", 0), allow("a", "b", "rc", 0)}, []int{0}},
		{[]api.Rule{allow("a", "bc", "r", 0), allow("a", "cd", "r", 0), allow("a", "bd", "r", 0), allow("a", "bcd", "r", 0)}, []int{0, 1, 2}},
		// Together, others give it.
		{[]api.Rule{allow("ab", "cd", "rw", 0), allow("a", "cd", "rw", 0), allow("b", "c", "rw", 0), allow("b", "d", "r", 0), allow("b", "d", "w", 0)}, []int{0}},
		{[]api.Rule{allow("ab", "cd", "rw", 0), allow("a", "cd", "rw", 0), allow("b", "c", "rw", 0), allow("b", "d", "r", 0)}, []int{1, 2, 3}},
		{[]api.Rule{allow("a", "b", "r", 0), allow("a", "b", "r", x), allow("a", "b", "r", -x)}, []int{0}},
		{[]api.Rule{allow("a", "b", "r", x), allow("a", "b", "r", -x), allow("a", "b", "r", 0)}, []int{0, 1}},
		{[]api.Rule{allow("a", "b", "r", xOrY), allow("a", "b", "r", x), allow("a", "b", "r", y)}, []int{0}},
		{[]api.Rule{allow("a", "b", "r", xAndY), allow("a", "b", "r", x), allow("a", "b", "r", z)}, []int{0}},
		{[]api.Rule{allow("a", "b", "r", xSameY), allow("a", "b", "r", x), allow("a", "b", "r", -y)}, []int{0}},
		{[]api.Rule{allow("a", "b", "r", 0), allow("a", "b", "r", xSameY), allow("a", "b", "r", x), allow("a", "b", "r", y)}, []int{0}},
		{[]api.Rule{allow("a", "b", "r", z), allow("a", "b", "r", xSameY), allow("a", "b", "r", x)}, nil},
		// Self.
		{[]api.Rule{allow("ab", "s", "r", 0), allow("a", "a", "r", 0), allow("bc", "bc", "r", 0)}, []int{0}},
		{[]api.Rule{allow("a", "a", "r", 0), allow("ab", "s", "r", 0), allow("ab", "b", "r", 0)}, []int{0}},
		{[]api.Rule{allow("ab", "ab", "r", 0), allow("ab", "s", "r", 0)}, []int{1}},
		{[]api.Rule{allow("ab", "cs", "r", 0), allow("abc", "c", "r", 0), allow("a", "a", "r", 0)}, []int{2}},
		// Rules that give nothing.
		{[]api.Rule{allow("a", "b", "r", never), allow("a", "b", "r", -always), allow("a", "b", "r", always)}, []int{0, 1}},
		// Kinds and classes.
		{[]api.Rule{allow("a", "b", "r", 0), kind(api.RuleAuditAllow, allow("a", "b", "r", 0)), kind(api.RuleDontAudit, allow("a", "b", "r", 0)), kind(api.RuleNeverAllow, allow("a", "b", "r", 0)), class(0, allow("a", "b", "r", 0))}, nil},
		{[]api.Rule{kind(api.RuleNeverAllow, allow("a", "b", "r", 0)), kind(api.RuleNeverAllow, allow("ab", "b", "r", 0)), kind(api.RuleDontAudit, allow("a", "b", "r", x)), kind(api.RuleDontAudit, allow("a", "bs", "rw", xOrY))}, []int{0, 2}},
	} {
		p := withRules(c.rules...)
		checkValid(t, p)
		if got := optimizer.Redundant(p); !slices.Equal(got, c.want) {
			t.Errorf("%v: got %v, want %v", c.rules, got, c.want)
		}
	}
}

// P24.3: Rules.
func TestRules(t *testing.T) {
	for _, c := range []struct{ rules, want []api.Rule }{
		{nil, nil},
		{[]api.Rule{allow("a", "b", "r", 0)}, []api.Rule{allow("a", "b", "r", 0)}},
		// Permissions, targets, sources.
		{[]api.Rule{allow("a", "b", "r", x), allow("a", "b", "wc", x)}, []api.Rule{allow("a", "b", "rwc", x)}},
		{[]api.Rule{allow("a", "b", "r", -x), allow("a", "cd", "r", -x)}, []api.Rule{allow("a", "bcd", "r", -x)}},
		{[]api.Rule{allow("a", "b", "r", 0), allow("cd", "b", "r", 0)}, []api.Rule{allow("acd", "b", "r", 0)}},
		{[]api.Rule{allow("a", "b", "r", 0), allow("a", "b", "r", 0), allow("a", "b", "r", 0)}, []api.Rule{allow("a", "b", "r", 0)}},
		{[]api.Rule{allow("ab", "bs", "r", 0), allow("bc", "bs", "r", 0)}, []api.Rule{allow("abc", "bs", "r", 0)}},
		{[]api.Rule{allow("ab", "s", "r", 0), allow("ab", "cs", "r", 0)}, []api.Rule{allow("ab", "cs", "r", 0)}},
		{[]api.Rule{kind(api.RuleNeverAllow, allow("a", "b", "r", 0)), kind(api.RuleNeverAllow, allow("a", "b", "w", 0))}, []api.Rule{kind(api.RuleNeverAllow, allow("a", "b", "rw", 0))}},
		// Rules that cannot be joined.
		{[]api.Rule{allow("a", "b", "r", 0), allow("a", "c", "w", 0)}, []api.Rule{allow("a", "b", "r", 0), allow("a", "c", "w", 0)}},
		{[]api.Rule{allow("a", "b", "r", 0), allow("c", "d", "r", 0)}, []api.Rule{allow("a", "b", "r", 0), allow("c", "d", "r", 0)}},
		{[]api.Rule{allow("a", "b", "r", 0), allow("c", "b", "w", 0)}, []api.Rule{allow("a", "b", "r", 0), allow("c", "b", "w", 0)}},
		{[]api.Rule{allow("a", "b", "r", 0), allow("a", "bs", "r", 0)}, []api.Rule{allow("a", "b", "r", 0), allow("a", "bs", "r", 0)}},
		{[]api.Rule{allow("a", "b", "r", x), allow("a", "b", "w", -x), allow("a", "b", "c", 0)}, []api.Rule{allow("a", "b", "r", x), allow("a", "b", "w", -x), allow("a", "b", "c", 0)}},
		{[]api.Rule{allow("a", "b", "r", 0), class(0, allow("a", "b", "w", 0)), kind(api.RuleDontAudit, allow("a", "b", "r", 0))}, []api.Rule{allow("a", "b", "r", 0), class(0, allow("a", "b", "w", 0)), kind(api.RuleDontAudit, allow("a", "b", "r", 0))}},
		// The join stands in the place of the first rule, and the others in theirs.
		{[]api.Rule{allow("d", "d", "c", 0), allow("a", "b", "r", 0), allow("c", "d", "w", 0), allow("a", "b", "w", 0), allow("b", "a", "r", 0)}, []api.Rule{allow("d", "d", "c", 0), allow("a", "b", "rw", 0), allow("c", "d", "w", 0), allow("b", "a", "r", 0)}},
		// A join can be joined again, also with an earlier rule.
		{[]api.Rule{allow("a", "b", "r", 0), allow("a", "b", "w", 0), allow("a", "c", "rw", 0)}, []api.Rule{allow("a", "bc", "rw", 0)}},
		{[]api.Rule{allow("a", "bc", "r", 0), allow("d", "b", "r", 0), allow("d", "c", "r", 0)}, []api.Rule{allow("ad", "bc", "r", 0)}},
		{[]api.Rule{allow("a", "b", "rw", 0), allow("d", "a", "c", 0), allow("a", "c", "r", 0), allow("a", "c", "w", 0)}, []api.Rule{allow("a", "bc", "rw", 0), allow("d", "a", "c", 0)}},
		// The first rule is joined with the first later one, which may prevent another join.
		{[]api.Rule{allow("a", "b", "r", 0), allow("c", "b", "r", 0), allow("a", "b", "w", 0)}, []api.Rule{allow("ac", "b", "r", 0), allow("a", "b", "w", 0)}},
		{[]api.Rule{allow("a", "b", "r", 0), allow("a", "b", "w", 0), allow("c", "b", "r", 0)}, []api.Rule{allow("a", "b", "rw", 0), allow("c", "b", "r", 0)}},
		{[]api.Rule{allow("a", "b", "r", 0), allow("c", "d", "w", 0), allow("c", "d", "r", 0), allow("a", "d", "r", 0)}, []api.Rule{allow("a", "bd", "r", 0), allow("c", "d", "rw", 0)}},
	} {
		p := withRules(c.rules...)
		checkValid(t, p)
		if got := optimizer.Rules(p); !same(got, withRules(c.want...)) {
			t.Errorf("%v: got %v, want %v", c.rules, got.Rules, c.want)
		}
	}
}

// P24.5: Optimize consists of its steps, in their order.
func TestOptimize(t *testing.T) {
	for seed := range 500 {
		p := newPicker(seed).policy(t)
		want := optimizer.Conditions(p)
		want = optimizer.Without(want, optimizer.Redundant(want))
		want = optimizer.Conditions(optimizer.Rules(want))
		if got := optimizer.Optimize(p); !same(got, want) {
			t.Errorf("seed %d: got %s, want %s", seed, brief(got), brief(want))
		}
	}
	// A condition is left out at last if its rules were redundant; one is used by more rules first if it is equal to others.
	p := policy(number(0), number(2), not(not(number(0))))
	p.Rules = []api.Rule{allow("a", "b", "r", 2), allow("a", "b", "r", 3), allow("a", "b", "w", 1), allow("a", "b", "rc", 0)}
	want := policy(number(0))
	want.Rules = []api.Rule{allow("a", "b", "w", 1), allow("a", "b", "rc", 0)}
	if got := optimizer.Optimize(p); !same(got, want) {
		t.Errorf("got %v, %v", got.Rules, got.Conds)
	}
	p.Rules = []api.Rule{allow("a", "b", "r", 3), allow("a", "b", "w", 1)}
	want.Rules = []api.Rule{allow("a", "b", "rw", 1)}
	if got := optimizer.Optimize(p); !same(got, want) {
		t.Errorf("got %v, %v", got.Rules, got.Conds)
	}
}

// P24.2, P24.3, P24.4: the examples of the chapter.
func TestExamples(t *testing.T) {
	p := withRules(allow("a", "b", "r", 0), allow("a", "b", "w", 0))
	if got := optimizer.Rules(p).Rules; !slices.Equal(got, []api.Rule{allow("a", "b", "rw", 0)}) {
		t.Errorf("got %v", got)
	}
	p.Rules = append(p.Rules, allow("a", "c", "rw", 0))
	if got := optimizer.Rules(p).Rules; !slices.Equal(got, []api.Rule{allow("a", "bc", "rw", 0)}) {
		t.Errorf("got %v", got)
	}
	p = withRules(allow("a", "b", "r", x), allow("a", "b", "r", 0))
	if got := optimizer.Redundant(p); !slices.Equal(got, []int{0}) {
		t.Errorf("got %v", got)
	}
	p = policy(and(number(0), not(number(0))), number(0), not(number(0)))
	p.Rules = []api.Rule{allow("a", "b", "r", 1), allow("a", "b", "w", 2), allow("c", "d", "w", 3)}
	want := policy(number(0))
	want.Rules = []api.Rule{allow("a", "b", "w", 1), allow("c", "d", "w", -1)}
	if got := optimizer.Conditions(p); !same(got, want) {
		t.Errorf("got %v, %v", got.Rules, got.Conds)
	}
}

// P24.2, P24.3: policies of any size.
func TestFullPolicies(t *testing.T) {
	all := bitset.All(api.MaxTypes)
	p := full()
	for i := range api.MaxRules {
		p.Rules = append(p.Rules, api.Rule{Kind: 1 + i%4, Source: all, Target: all, Class: i / 4 % api.MaxClasses, Perms: math.MaxUint32})
	}
	if got := optimizer.Redundant(p); len(got) != api.MaxRules-4*api.MaxClasses || got[0] != 0 || got[len(got)-1] != len(got)-1 {
		t.Errorf("got %d redundant rules", len(got))
	}
	if got := optimizer.Rules(p); len(got.Rules) != 4*api.MaxClasses || !optimizer.Same(p, got) {
		t.Errorf("got %d rules", len(got.Rules))
	}
	// Each pair of types has a rule of its own; then all pairs have one.
	p.Rules = nil
	for i := range api.MaxRules {
		p.Rules = append(p.Rules, api.Rule{Kind: api.RuleAllow, Source: bitset.Of(i / 16), Target: bitset.Of(i % 16), Perms: 1})
	}
	if got := optimizer.Redundant(p); len(got) != 0 {
		t.Errorf("got %d redundant rules", len(got))
	}
	whole := api.Rule{Kind: api.RuleAllow, Source: all, Target: bitset.All(16), Perms: 1}
	if got := optimizer.Optimize(p).Rules; !slices.Equal(got, []api.Rule{whole}) {
		t.Errorf("got %s", brief(got))
	}
	p.Rules[0] = whole
	if got := optimizer.Redundant(p); len(got) != api.MaxRules-1 || got[0] != 1 {
		t.Errorf("got %d redundant rules", len(got))
	}
	// With the one that was replaced, the others together give all.
	p.Rules = append(p.Rules, api.Rule{Kind: api.RuleAllow, Source: bitset.Of(0), Target: bitset.Of(0), Perms: 1})
	if got := optimizer.Redundant(p); !slices.Equal(got, []int{0}) {
		t.Errorf("got %v", got)
	}
}

// P24.1, P24.2: as many booleans as there may be.
func TestFullStates(t *testing.T) {
	p := full()
	var nots []api.Expr
	for i := range api.MaxBools {
		p.Conds = append(p.Conds, number(i))
		nots = append(nots, not(number(i)))
	}
	p.Conds = append(p.Conds, joinedBy(api.ExprAnd, nots...))
	p.Rules = []api.Rule{allow("a", "b", "r", 0)}
	one := full()
	one.Rules = []api.Rule{allow("a", "b", "r", 0)}
	for cond := 1; cond <= api.MaxBools; cond++ {
		p.Rules = append(p.Rules, allow("a", "b", "r", cond))
	}
	last := p.Rules[1:]
	if got := optimizer.Redundant(p); len(got) != api.MaxBools || got[0] != 1 {
		t.Errorf("got %v", got)
	}
	p.Rules = append(p.Rules, allow("a", "b", "r", api.MaxBools+1))
	checkValid(t, p)
	if got := optimizer.Redundant(p); !slices.Equal(got, []int{0}) {
		t.Errorf("got %v", got)
	}
	p.Rules = p.Rules[1:]
	if !optimizer.Same(p, one) || !optimizer.Same(one, p) {
		t.Error("together, the rules are always active")
	}
	// In one state, none of these is active.
	p.Rules = last
	if optimizer.Same(p, one) || optimizer.Same(one, p) {
		t.Error("together, the rules are not always active")
	}
}
