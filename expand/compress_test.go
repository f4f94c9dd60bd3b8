package expand_test

import (
	"math"
	"testing"

	"accesscontrol/api"
	"accesscontrol/bitset"
	"accesscontrol/expand"
)

// P15.5: entries with the same permissions are joined to rules.
func TestCompress(t *testing.T) {
	of := bitset.Of
	allow := func(source, target api.Set, perms uint32) api.Rule {
		return api.Rule{Kind: api.RuleAllow, Source: source, Target: target, Perms: perms}
	}
	for _, x := range []struct {
		l    []api.Entry
		want []api.Rule
	}{
		{nil, nil},
		{[]api.Entry{{Source: 1, Target: 2}}, nil},
		{
			[]api.Entry{{Target: 1, Allow: 1}, {Target: 2, Allow: 1}, {Source: 1, Target: 1, Allow: 1}, {Source: 1, Target: 2, Allow: 1}},
			[]api.Rule{allow(of(0, 1), of(1, 2), 1)},
		},
		{ // other targets
			[]api.Entry{{Target: 1, Allow: 1}, {Target: 2, Allow: 1}, {Source: 1, Target: 1, Allow: 1}},
			[]api.Rule{allow(of(0), of(1, 2), 1), allow(of(1), of(1), 1)},
		},
		{ // the whole vector counts, after merging
			[]api.Entry{{Target: 1, Allow: 1}, {Target: 1, Allow: 2}, {Target: 2, Allow: 1}, {Target: 3, Allow: 3}},
			[]api.Rule{allow(of(0), of(2), 1), allow(of(0), of(1, 3), 3)},
		},
		{ // a pair with itself needs no Self
			[]api.Entry{{Source: 4, Target: 4, Allow: 1}, {Source: 5, Target: 5, Allow: 1}},
			[]api.Rule{allow(of(4), of(4), 1), allow(of(5), of(5), 1)},
		},
		{ // each vector of an entry has a rule of its own
			[]api.Entry{{Source: 2, Target: 1, Allow: 1, AuditAllow: 2, DontAudit: 4}, {Source: 3, Target: 1, DontAudit: 4}},
			[]api.Rule{
				allow(of(2), of(1), 1),
				{Kind: api.RuleAuditAllow, Source: of(2), Target: of(1), Perms: 2},
				{Kind: api.RuleDontAudit, Source: of(2, 3), Target: of(1), Perms: 4},
			},
		},
		{ // classes and conditions are not joined
			[]api.Entry{{Class: 2, Cond: 1, Allow: 1}, {Class: 2, Allow: 1}, {Class: 1, Cond: 3, Allow: 1}, {Class: 2, Cond: -1, Allow: 1}},
			[]api.Rule{
				{Kind: api.RuleAllow, Source: of(0), Target: of(0), Class: 1, Cond: 3, Perms: 1},
				{Kind: api.RuleAllow, Source: of(0), Target: of(0), Class: 2, Cond: -1, Perms: 1},
				{Kind: api.RuleAllow, Source: of(0), Target: of(0), Class: 2, Perms: 1},
				{Kind: api.RuleAllow, Source: of(0), Target: of(0), Class: 2, Cond: 1, Perms: 1},
			},
		},
		{ // what is no type is left out
			[]api.Entry{{Source: -1, Allow: 1}, {Source: 256, Allow: 1}, {Target: -1, Allow: 1}, {Target: 256, Allow: 1}, {Source: math.MinInt, Target: math.MaxInt, Allow: 1}, {Source: 255, Target: 255, Allow: 1}, {Allow: 1}},
			[]api.Rule{allow(of(0), of(0), 1), allow(of(255), of(255), 1)},
		},
		{ // any class, condition and vector
			[]api.Entry{{Class: -1, Cond: math.MinInt, DontAudit: math.MaxUint32}, {Target: 1, Class: -1, Cond: math.MinInt, DontAudit: math.MaxUint32}},
			[]api.Rule{{Kind: api.RuleDontAudit, Source: of(0), Target: of(0, 1), Class: -1, Cond: math.MinInt, Perms: math.MaxUint32}},
		},
	} {
		checkRules(t, "Compress "+brief(x.l), expand.Compress(x.l), x.want)
	}
}

// P15.5: rules are ordered by Kind, Class, Cond and Perms, then by the least source.
func TestCompressOrder(t *testing.T) {
	var l []api.Entry
	var want []api.Rule
	for _, kind := range []int{api.RuleAllow, api.RuleAuditAllow, api.RuleDontAudit} {
		for _, class := range []int{0, 1} {
			for _, cond := range []int{-1, 2} {
				for _, perms := range []uint32{1, 1 << 31} {
					for _, sources := range [][]int{{0, 65}, {1, 2}} {
						target := 9
						if sources[0] == 0 {
							target = 200
						}
						if perms == 1 {
							target++
						}
						r := api.Rule{Kind: kind, Source: bitset.Of(sources...), Target: bitset.Of(target), Class: class, Cond: cond, Perms: perms}
						want = append(want, r)
						l = append(l, expand.Entries(policy(r))...)
					}
				}
			}
		}
	}
	checkRules(t, "Compress", expand.Compress(l), want)
}

// P15.5: as many entries as there are pairs are one rule, or one for each source.
func TestCompressOfAll(t *testing.T) {
	all := bitset.All(256)
	whole := []api.Rule{{Kind: api.RuleAllow, Source: all, Target: all, Perms: 1}}
	l := expand.Entries(policy(whole...))
	checkRules(t, "Compress", expand.Compress(l), whole)
	for i := range l {
		if l[i].Source == l[i].Target {
			l[i].Allow = 2
		}
	}
	rules := expand.Compress(l)
	if len(rules) != 512 {
		t.Fatalf("got %d rules", len(rules))
	}
	for n := range 256 {
		if want := (api.Rule{Kind: api.RuleAllow, Source: bitset.Of(n), Target: bitset.Without(all, n), Perms: 1}); rules[n] != want {
			t.Errorf("rule %d: got %v, want %v", n, rules[n], want)
		}
		if want := (api.Rule{Kind: api.RuleAllow, Source: bitset.Of(n), Target: bitset.Of(n), Perms: 2}); rules[256+n] != want {
			t.Errorf("rule %d: got %v, want %v", 256+n, rules[256+n], want)
		}
	}
}
