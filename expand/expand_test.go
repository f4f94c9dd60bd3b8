package expand_test

import (
	"math"
	"slices"
	"testing"

	"accesscontrol/api"
	"accesscontrol/bitset"
	"accesscontrol/expand"
)

// P15.1: the pairs of a rule, ascending, each once.
func TestRule(t *testing.T) {
	of := bitset.Of
	for _, x := range []struct {
		r    api.Rule
		want [][2]int
	}{
		{api.Rule{Source: of(0, 1), Target: of(1), Self: true}, [][2]int{{0, 0}, {0, 1}, {1, 1}}},
		{api.Rule{Source: of(0, 1), Target: of(1)}, [][2]int{{0, 1}, {1, 1}}},
		{api.Rule{Source: of(3), Target: of(255, 0, 64, 63)}, [][2]int{{3, 0}, {3, 63}, {3, 64}, {3, 255}}},
		{api.Rule{Source: of(255, 128), Target: of(7)}, [][2]int{{128, 7}, {255, 7}}},
		{api.Rule{Source: of(2, 5), Self: true}, [][2]int{{2, 2}, {5, 5}}},
		{api.Rule{Source: of(2), Target: of(2), Self: true}, [][2]int{{2, 2}}},
		{api.Rule{Source: of(2)}, nil},
		{api.Rule{Target: of(2)}, nil},
		{api.Rule{Target: of(2), Self: true}, nil},
		{api.Rule{}, nil},
		{api.Rule{Kind: api.RuleNeverAllow, Source: of(0), Target: of(1), Class: -5, Cond: math.MinInt}, [][2]int{{0, 1}}},
		{api.Rule{Kind: 99, Source: of(0), Target: of(1), Class: 99, Perms: 1, Cond: 99}, [][2]int{{0, 1}}},
	} {
		if got := expand.Rule(x.r); !slices.Equal(got, x.want) {
			t.Errorf("Rule(%v): got %v, want %v", x.r, got, x.want)
		}
	}
}

// P15.1: a rule of all types has all pairs.
func TestRuleOfAll(t *testing.T) {
	all := bitset.All(256)
	l := expand.Rule(api.Rule{Source: all, Target: all, Self: true})
	if len(l) != 256*256 {
		t.Fatalf("got %d pairs", len(l))
	}
	for i, pair := range l {
		if pair != [2]int{i / 256, i % 256} {
			t.Fatalf("pair %d: got %v", i, pair)
		}
	}
}

// P15.2: the entries of rules, merged; Count is their number.
func TestEntries(t *testing.T) {
	zero, one := bitset.Of(0), bitset.Of(1)
	rule := func(kind, class, cond int, perms uint32) api.Rule {
		return api.Rule{Kind: kind, Source: zero, Target: one, Class: class, Cond: cond, Perms: perms}
	}
	for _, x := range []struct {
		rules []api.Rule
		want  []api.Entry
	}{
		{nil, nil},
		{[]api.Rule{rule(api.RuleAllow, 0, 0, 1), rule(api.RuleAllow, 0, 0, 2)}, []api.Entry{{Target: 1, Allow: 3}}},
		{
			[]api.Rule{rule(api.RuleDontAudit, 0, 0, 4), rule(api.RuleAllow, 0, 0, 1), rule(api.RuleAuditAllow, 0, 0, 2)},
			[]api.Entry{{Target: 1, Allow: 1, AuditAllow: 2, DontAudit: 4}},
		},
		{
			[]api.Rule{rule(api.RuleAllow, 0, 1, 1), rule(api.RuleAllow, 0, -1, 2), rule(api.RuleAllow, 0, 0, 4), rule(api.RuleAllow, 1, 0, 8)},
			[]api.Entry{{Target: 1, Cond: -1, Allow: 2}, {Target: 1, Allow: 4}, {Target: 1, Cond: 1, Allow: 1}, {Target: 1, Class: 1, Allow: 8}},
		},
		{
			[]api.Rule{rule(api.RuleAllow, math.MaxInt, math.MinInt, 1<<31), rule(api.RuleAllow, -7, math.MaxInt, 1)},
			[]api.Entry{{Target: 1, Class: -7, Cond: math.MaxInt, Allow: 1}, {Target: 1, Class: math.MaxInt, Cond: math.MinInt, Allow: 1 << 31}},
		},
		{
			[]api.Rule{{Kind: api.RuleAllow, Source: bitset.Of(0, 1), Target: one, Self: true, Perms: 1}},
			[]api.Entry{{Allow: 1}, {Target: 1, Allow: 1}, {Source: 1, Target: 1, Allow: 1}},
		},
		{
			[]api.Rule{{Kind: api.RuleDontAudit, Source: bitset.Of(255, 64), Self: true, Perms: 1}},
			[]api.Entry{{Source: 64, Target: 64, DontAudit: 1}, {Source: 255, Target: 255, DontAudit: 1}},
		},
		{[]api.Rule{rule(api.RuleNeverAllow, 0, 0, 1), rule(0, 0, 0, 1), rule(-1, 0, 0, 1), rule(5, 0, 0, 1)}, nil},
		{[]api.Rule{rule(api.RuleAllow, 0, 0, 0), {Kind: api.RuleAllow, Source: zero, Perms: 1}, {Kind: api.RuleAllow, Target: one, Self: true, Perms: 1}}, nil},
	} {
		checkPolicy(t, x.rules, x.want)
	}
}

// P15.2: entries are ordered by Source, then by Target, then by Class, then by Cond.
func TestEntriesOrder(t *testing.T) {
	low := bitset.Of(9, 10)
	var rules []api.Rule
	var want []api.Entry
	for _, source := range []int{9, 10} {
		for _, target := range []int{9, 10} {
			for _, class := range []int{-2, 3} {
				for _, cond := range []int{-64, 0, 5} {
					want = append(want, api.Entry{Source: source, Target: target, Class: class, Cond: cond, Allow: 1})
				}
			}
		}
	}
	for _, cond := range []int{5, -64, 0} {
		for _, class := range []int{3, -2} {
			rules = append(rules, api.Rule{Kind: api.RuleAllow, Source: low, Target: low, Class: class, Cond: cond, Perms: 1})
		}
	}
	checkPolicy(t, rules, want)
}

// P15.2: of a policy only its rules count.
func TestEntriesOfPolicy(t *testing.T) {
	r := api.Rule{Kind: api.RuleAllow, Source: bitset.Of(0), Target: bitset.Of(1), Perms: 1, Cond: 1}
	p := api.Policy{
		Classes: []api.Class{{Name: "c"}}, Types: []api.Type{{Name: "a", Permissive: true}}, Conds: []api.Expr{{Op: 99}},
		Rules: []api.Rule{r}, Trans: []api.Trans{{Kind: 1, Source: bitset.Of(4), Target: bitset.Of(5)}},
	}
	checkEntries(t, "Entries", expand.Entries(p), []api.Entry{{Target: 1, Cond: 1, Allow: 1}})
	if n := expand.Count(p); n != 1 {
		t.Errorf("Count: got %d", n)
	}
}

// P15.2: rules of all types, as many as a policy can have, have few entries and do not take long.
func TestEntriesOfManyRules(t *testing.T) {
	all := bitset.All(256)
	var rules []api.Rule
	for n := range api.MaxRules {
		rules = append(rules, api.Rule{Kind: api.RuleAllow + n%4, Source: all, Target: all, Perms: 1 << (n % 32)})
	}
	p := policy(rules...)
	l := expand.Entries(p)
	if len(l) != 256*256 || expand.Count(p) != 256*256 {
		t.Fatalf("got %d entries", len(l))
	}
	for i, e := range l {
		if want := (api.Entry{Source: i / 256, Target: i % 256, Allow: 0x11111111, AuditAllow: 0x22222222, DontAudit: 0x44444444}); e != want {
			t.Fatalf("entry %d: got %v, want %v", i, e, want)
		}
	}
}

// P15.2: many rules with entries of their own need no more memory than these.
func TestEntriesOfManyPlaces(t *testing.T) {
	var rules []api.Rule
	for n := range 1 << 16 {
		rules = append(rules, api.Rule{Kind: api.RuleAllow, Source: bitset.Of(n % 256), Target: bitset.Of(7), Class: n, Cond: -n, Perms: 1})
	}
	p := policy(rules...)
	if l := expand.Entries(p); len(l) != 1<<16 || expand.Count(p) != 1<<16 || l[0] != (api.Entry{Target: 7, Allow: 1}) {
		t.Errorf("got %d entries, Count %d", len(l), expand.Count(p))
	}
}

// P15.3: entries with the same key are one, empty ones are left out, and the rest is ordered.
func TestMerge(t *testing.T) {
	for _, x := range []struct{ l, want []api.Entry }{
		{nil, nil},
		{[]api.Entry{{}}, nil},
		{[]api.Entry{{Source: 3, Target: 4, Class: 5, Cond: 6}}, nil},
		{
			[]api.Entry{{Source: 1, Allow: 1}, {Target: 1, DontAudit: 4}, {Source: 1, Allow: 2, AuditAllow: 8}, {Target: 7}, {Source: 1}},
			[]api.Entry{{Target: 1, DontAudit: 4}, {Source: 1, Allow: 3, AuditAllow: 8}},
		},
		{
			[]api.Entry{{Cond: 1, Allow: 1}, {Allow: 1}, {Class: 1, Allow: 1}, {Cond: -1, Allow: 1}, {Target: 1, Allow: 1}, {Source: 1, Allow: 1}},
			[]api.Entry{{Cond: -1, Allow: 1}, {Allow: 1}, {Cond: 1, Allow: 1}, {Class: 1, Allow: 1}, {Target: 1, Allow: 1}, {Source: 1, Allow: 1}},
		},
		{
			[]api.Entry{{Source: math.MaxInt, Allow: 1}, {Source: math.MinInt, Target: math.MaxInt, Allow: 1}, {Source: math.MinInt, Target: -1, Cond: math.MinInt, DontAudit: 1 << 31}},
			[]api.Entry{{Source: math.MinInt, Target: -1, Cond: math.MinInt, DontAudit: 1 << 31}, {Source: math.MinInt, Target: math.MaxInt, Allow: 1}, {Source: math.MaxInt, Allow: 1}},
		},
		{[]api.Entry{{AuditAllow: 1}, {AuditAllow: 1}, {AuditAllow: 1}}, []api.Entry{{AuditAllow: 1}}},
		{[]api.Entry{{AuditAllow: math.MaxUint32}, {DontAudit: math.MaxUint32}}, []api.Entry{{AuditAllow: math.MaxUint32, DontAudit: math.MaxUint32}}},
	} {
		checkEntries(t, "Merge "+brief(x.l), expand.Merge(x.l), x.want)
	}
}

// P15.4: what neverallow rules forbid of the allowed permissions.
func TestNever(t *testing.T) {
	of := bitset.Of
	allow := func(cond int, perms uint32, sources ...int) api.Rule {
		return api.Rule{Kind: api.RuleAllow, Source: of(sources...), Target: of(1), Cond: cond, Perms: perms}
	}
	never := func(class int, perms uint32) api.Rule {
		return api.Rule{Kind: api.RuleNeverAllow, Source: of(0), Target: of(1), Class: class, Perms: perms}
	}
	other := never(0, 1)
	other.Cond = -3
	for _, x := range []struct {
		rules []api.Rule
		want  []api.Entry
	}{
		{nil, nil},
		{[]api.Rule{allow(0, 3, 0), never(0, 2)}, []api.Entry{{Target: 1, Allow: 2}}},
		{[]api.Rule{never(0, 6), allow(0, 1, 0), allow(0, 2, 0)}, []api.Entry{{Target: 1, Allow: 2}}},
		{[]api.Rule{allow(0, 15, 0), never(0, 2), never(0, 8), never(0, 16)}, []api.Entry{{Target: 1, Allow: 10}}},
		{[]api.Rule{allow(0, 1, 0), never(0, 2)}, nil},
		{[]api.Rule{allow(0, 1, 0), never(1, 1)}, nil},
		{[]api.Rule{allow(0, 1, 0), never(0, 0)}, nil},
		{[]api.Rule{allow(0, 1, 2), never(0, 1)}, nil},
		{[]api.Rule{allow(0, 1, 0)}, nil},
		{[]api.Rule{never(0, 1)}, nil},
		{[]api.Rule{allow(2, 3, 0, 2), allow(-2, 5, 0), allow(0, 9, 0), never(0, 3)}, []api.Entry{{Target: 1, Cond: -2, Allow: 1}, {Target: 1, Allow: 1}, {Target: 1, Cond: 2, Allow: 3}}},
		{[]api.Rule{allow(4, 1, 0), other}, []api.Entry{{Target: 1, Cond: 4, Allow: 1}}},
		{
			[]api.Rule{allow(0, 1, 0), never(0, 1), {Kind: api.RuleAuditAllow, Source: of(0), Target: of(1), Perms: 1}, {Kind: api.RuleDontAudit, Source: of(0), Target: of(1), Perms: 1}},
			[]api.Entry{{Target: 1, Allow: 1}},
		},
		{[]api.Rule{{Kind: api.RuleAuditAllow, Source: of(0), Target: of(1), Perms: 1}, {Kind: api.RuleDontAudit, Source: of(0), Target: of(1), Perms: 1}, never(0, 1)}, nil},
		{
			[]api.Rule{{Kind: api.RuleAllow, Source: of(1, 2, 3), Target: of(1, 2, 3), Perms: 1}, {Kind: api.RuleNeverAllow, Source: of(1, 3), Self: true, Perms: 1}},
			[]api.Entry{{Source: 1, Target: 1, Allow: 1}, {Source: 3, Target: 3, Allow: 1}},
		},
		{
			[]api.Rule{{Kind: api.RuleAllow, Source: of(2), Self: true, Perms: 1 << 31}, {Kind: api.RuleNeverAllow, Source: bitset.All(256), Target: bitset.All(256), Perms: math.MaxUint32}},
			[]api.Entry{{Source: 2, Target: 2, Allow: 1 << 31}},
		},
	} {
		checkEntries(t, "Never "+brief(x.rules), expand.Never(policy(x.rules...)), x.want)
	}
}

// P15.4: a neverallow rule of all types concerns only what is allowed.
func TestNeverOfAll(t *testing.T) {
	all := bitset.All(256)
	rules := []api.Rule{
		{Kind: api.RuleNeverAllow, Source: all, Target: all, Class: 31, Perms: math.MaxUint32},
		{Kind: api.RuleAllow, Source: all, Target: bitset.Of(0, 255), Class: 31, Perms: 5, Cond: 64},
		{Kind: api.RuleAllow, Source: all, Target: all, Class: 30, Perms: 5},
	}
	l := expand.Never(policy(rules...))
	if len(l) != 512 {
		t.Fatalf("got %d entries", len(l))
	}
	for i, e := range l {
		if want := (api.Entry{Source: i / 2, Target: i % 2 * 255, Class: 31, Cond: 64, Allow: 5}); e != want {
			t.Fatalf("entry %d: got %v, want %v", i, e, want)
		}
	}
}
