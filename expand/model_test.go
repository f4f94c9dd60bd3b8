package expand_test

import (
	"cmp"
	"slices"
	"testing"

	"accesscontrol/api"
	"accesscontrol/bitset"
	"accesscontrol/expand"
)

// hasPair says by the definition whether a pair is one of a rule.
func hasPair(r api.Rule, source, target int) bool {
	return bitset.Has(r.Source, source) && (bitset.Has(r.Target, target) || r.Self && source == target)
}

// keyOf returns an entry with its key alone.
func keyOf(e api.Entry) api.Entry {
	e.Allow, e.AuditAllow, e.DontAudit = 0, 0, 0
	return e
}

func compareEntries(a, b api.Entry) int {
	return cmp.Or(cmp.Compare(a.Source, b.Source), cmp.Compare(a.Target, b.Target), cmp.Compare(a.Class, b.Class), cmp.Compare(a.Cond, b.Cond))
}

// modelMerge merges entries one by one.
func modelMerge(l []api.Entry) []api.Entry {
	var all []api.Entry
	for _, e := range l {
		i := slices.IndexFunc(all, func(x api.Entry) bool { return keyOf(x) == keyOf(e) })
		if i < 0 {
			all = append(all, e)
			continue
		}
		all[i].Allow |= e.Allow
		all[i].AuditAllow |= e.AuditAllow
		all[i].DontAudit |= e.DontAudit
	}
	all = slices.DeleteFunc(all, func(e api.Entry) bool { return e == keyOf(e) })
	slices.SortFunc(all, compareEntries)
	return all
}

// modelEntries merges the entries of all pairs of all rules.
func modelEntries(l []api.Rule) []api.Entry {
	var all []api.Entry
	for _, r := range l {
		for source := range 256 {
			for target := range 256 {
				if !hasPair(r, source, target) {
					continue
				}
				e := api.Entry{Source: source, Target: target, Class: r.Class, Cond: r.Cond}
				switch r.Kind {
				case api.RuleAllow:
					e.Allow = r.Perms
				case api.RuleAuditAllow:
					e.AuditAllow = r.Perms
				case api.RuleDontAudit:
					e.DontAudit = r.Perms
				}
				all = append(all, e)
			}
		}
	}
	return modelMerge(all)
}

func modelNever(l []api.Rule) []api.Entry {
	var found []api.Entry
	for _, e := range modelEntries(l) {
		bad := keyOf(e)
		for _, r := range l {
			if r.Kind == api.RuleNeverAllow && r.Class == e.Class && hasPair(r, e.Source, e.Target) {
				bad.Allow |= e.Allow & r.Perms
			}
		}
		if bad.Allow != 0 {
			found = append(found, bad)
		}
	}
	return found
}

// modelCompress visits kinds, classes, conditions and vectors in their order, and for each of them the sources.
func modelCompress(l []api.Entry) []api.Rule {
	l = slices.DeleteFunc(modelMerge(l), func(e api.Entry) bool {
		return e.Source < 0 || e.Source > 255 || e.Target < 0 || e.Target > 255
	})
	vector := func(kind int, e api.Entry) uint32 {
		return []uint32{0, e.Allow, e.AuditAllow, e.DontAudit}[kind]
	}
	var rules []api.Rule
	for _, kind := range []int{api.RuleAllow, api.RuleAuditAllow, api.RuleDontAudit} {
		for _, class := range numbers(l, func(e api.Entry) int { return e.Class }) {
			for _, cond := range numbers(l, func(e api.Entry) int { return e.Cond }) {
				for _, perms := range numbers(l, func(e api.Entry) int { return int(vector(kind, e)) }) {
					if perms != 0 {
						same := func(e api.Entry) bool {
							return e.Class == class && e.Cond == cond && vector(kind, e) == uint32(perms)
						}
						like := api.Rule{Kind: kind, Class: class, Cond: cond, Perms: uint32(perms)}
						rules = append(rules, modelRules(l, same, like)...)
					}
				}
			}
		}
	}
	return rules
}

// modelRules returns the rules for some of the entries, with the fields of another rule.
func modelRules(l []api.Entry, some func(api.Entry) bool, like api.Rule) []api.Rule {
	var rules []api.Rule
	for source := range 256 {
		r := like
		for _, e := range l {
			if some(e) && e.Source == source {
				r.Target = bitset.With(r.Target, e.Target)
			}
		}
		if r.Target == (api.Set{}) {
			continue
		}
		i := slices.IndexFunc(rules, func(x api.Rule) bool { return x.Target == r.Target })
		if i < 0 {
			i = len(rules)
			rules = append(rules, r)
		}
		rules[i].Source = bitset.With(rules[i].Source, source)
	}
	return rules
}

// numbers returns a number of each entry, ascending, each once.
func numbers(l []api.Entry, of func(api.Entry) int) []int {
	var all []int
	for _, e := range l {
		all = append(all, of(e))
	}
	slices.Sort(all)
	return slices.Compact(all)
}

// P15.1, P15.2, P15.4: pairs, entries and what is forbidden are those of the definitions.
func TestModelOfRules(t *testing.T) {
	found, selves := 0, 0
	for seed := range 150 {
		pick := newPicker(seed)
		l := pick.rules()
		checkPolicy(t, l, modelEntries(l))
		want := modelNever(l)
		checkEntries(t, "Never "+brief(l), expand.Never(policy(l...)), want)
		if len(want) > 1 {
			found++
		}
		for _, r := range l {
			var pairs [][2]int
			for source := range 256 {
				for target := range 256 {
					if hasPair(r, source, target) {
						pairs = append(pairs, [2]int{source, target})
					}
				}
			}
			if got := expand.Rule(r); !slices.Equal(got, pairs) {
				t.Errorf("Rule(%v): got %v, want %v", r, got, pairs)
			}
			if r.Self && len(pairs) > 1 {
				selves++
			}
		}
	}
	if found < 15 || selves < 120 {
		t.Errorf("got %d policies with forbidden entries, and %d rules with Self", found, selves)
	}
}

// P15.3, P15.5: merging and compressing are what the chapter describes.
func TestModelOfEntries(t *testing.T) {
	merged, joined := 0, 0
	for seed := range 1000 {
		pick := newPicker(seed)
		l := pick.entries(pick(2) == 0)
		if pick(4) == 0 {
			l = expand.Entries(policy(pick.rules()...))
		}
		want, rules := modelMerge(l), modelCompress(l)
		checkEntries(t, "Merge "+brief(l), expand.Merge(l), want)
		checkRules(t, "Compress "+brief(l), expand.Compress(l), rules)
		if len(want) < len(l) {
			merged++
		}
		if slices.ContainsFunc(rules, func(r api.Rule) bool { return bitset.Count(r.Source) > 1 && bitset.Count(r.Target) > 1 }) {
			joined++
		}
	}
	if merged < 300 || joined < 100 {
		t.Errorf("got %d lists in which something is merged, and %d with joined sources", merged, joined)
	}
}
