package expand_test

import (
	"slices"
	"testing"

	"accesscontrol/api"
	"accesscontrol/bitset"
	"accesscontrol/expand"
)

// P15.6: the rules of Compress have the same entries.
func TestCompressKeepsEntries(t *testing.T) {
	for seed := range 1000 {
		pick := newPicker(seed)
		l := pick.entries(true)
		if pick(3) == 0 {
			l = expand.Entries(policy(pick.rules()...))
		}
		p := policy(pick.rules()...)
		p.Rules = expand.Compress(l)
		checkEntries(t, "Entries of Compress "+brief(l), expand.Entries(p), expand.Merge(l))
		checkRules(t, "Compress of them", expand.Compress(expand.Entries(p)), p.Rules)
	}
}

// P15.7: a merged list stays as it is, and no order of rules or entries plays a part.
func TestOrder(t *testing.T) {
	for seed := range 500 {
		pick := newPicker(seed)
		l, rules := pick.entries(pick(2) == 0), pick.rules()
		m := expand.Merge(l)
		checkEntries(t, "Merge of a merged list", expand.Merge(m), m)
		mixed := shuffled(pick, l)
		checkEntries(t, "Merge "+brief(mixed), expand.Merge(mixed), m)
		checkRules(t, "Compress "+brief(mixed), expand.Compress(mixed), expand.Compress(l))
		checkRules(t, "Compress "+brief(m), expand.Compress(m), expand.Compress(l))
		other := shuffled(pick, rules)
		checkEntries(t, "Entries "+brief(other), expand.Entries(policy(other...)), expand.Entries(policy(rules...)))
		checkEntries(t, "Never "+brief(other), expand.Never(policy(other...)), expand.Never(policy(rules...)))
	}
}

// P15.2, P15.3: the entries of rules are the merged entries of each of them.
func TestEntriesOfParts(t *testing.T) {
	for seed := range 500 {
		l := newPicker(seed).rules()
		var all []api.Entry
		for _, r := range l {
			all = append(all, expand.Entries(policy(r))...)
		}
		checkEntries(t, "Merge of parts", expand.Merge(all), expand.Entries(policy(l...)))
	}
}

// P15.4: an entry with forbidden permissions keeps none of them when they are taken away.
func TestNeverIsAllowed(t *testing.T) {
	for seed := range 500 {
		l := newPicker(seed).rules()
		all := expand.Entries(policy(l...))
		for _, e := range expand.Never(policy(l...)) {
			i := slices.IndexFunc(all, func(x api.Entry) bool { return keyOf(x) == keyOf(e) })
			if i < 0 || all[i].Allow&e.Allow != e.Allow || e.AuditAllow|e.DontAudit != 0 {
				t.Fatalf("Never(%s): got %v", brief(l), e)
			}
			all[i].Allow &^= e.Allow
		}
		rest := expand.Compress(all)
		for _, r := range l {
			if r.Kind == api.RuleNeverAllow {
				rest = append(rest, r)
			}
		}
		checkEntries(t, "Never without what was forbidden", expand.Never(policy(rest...)), nil)
	}
}

// All promises: arguments are not changed, and results share no memory with them or with each other.
func TestMemory(t *testing.T) {
	pick := newPicker(7)
	var rules []api.Rule
	for len(rules) < 20 {
		rules = append(rules, pick.rules()...)
	}
	var l []api.Entry
	for len(l) < 20 {
		l = append(l, pick.entries(true)...)
	}
	oldRules, old := slices.Clone(rules), slices.Clone(l)
	p := policy(rules...)
	merged := expand.Merge(l)
	for _, got := range [][]api.Entry{merged, expand.Merge(merged), expand.Entries(p), expand.Never(p)} {
		clear(got)
	}
	clear(expand.Compress(l))
	clear(expand.Rule(rules[0]))
	checkEntries(t, "the argument", l, old)
	checkRules(t, "the argument", rules, oldRules)
	checkEntries(t, "Merge", expand.Merge(l), modelMerge(l))
}

// P15.1: the pairs of the rules of Compress are those of its entries.
func TestRuleOfCompress(t *testing.T) {
	e := []api.Entry{{Source: 3, Target: 9, Allow: 1}, {Source: 4, Target: 9, Allow: 1}}
	for _, r := range expand.Compress(e) {
		if got := expand.Rule(r); !slices.Equal(got, [][2]int{{3, 9}, {4, 9}}) || r.Source != bitset.Of(3, 4) {
			t.Errorf("got %v", got)
		}
	}
}
