package expand

import (
	"cmp"
	"slices"

	"accesscontrol/api"
	"accesscontrol/bitset"
)

// meaning is what a rule says of its pairs.
type meaning struct {
	kind, class, cond int
	perms             uint32
}

// reach is one source with a meaning.
type reach struct {
	meaning
	source int
}

// block is a meaning with the targets for which sources have it.
type block struct {
	meaning
	targets api.Set
}

// Compress returns rules with the same entries, as few as its method finds: entries with the same permissions are joined to sets.
func Compress(l []api.Entry) []api.Rule {
	sources := map[block]api.Set{}
	for at, all := range reached(Merge(l)) {
		b := block{at.meaning, all}
		sources[b] = bitset.With(sources[b], at.source)
	}
	var rules []api.Rule
	for b, all := range sources {
		rules = append(rules, api.Rule{Kind: b.kind, Source: all, Target: b.targets, Class: b.class, Perms: b.perms, Cond: b.cond})
	}
	slices.SortFunc(rules, compareRules)
	return rules
}

// reached returns the targets of each source for each meaning that merged entries have.
func reached(l []api.Entry) map[reach]api.Set {
	all := map[reach]api.Set{}
	for _, e := range l {
		if !isType(e.Source) || !isType(e.Target) {
			continue
		}
		for _, m := range meanings(e) {
			at := reach{m, e.Source}
			all[at] = bitset.With(all[at], e.Target)
		}
	}
	return all
}

func isType(n int) bool { return 0 <= n && n < types }

// meanings returns what an entry says, one for each vector with permissions.
func meanings(e api.Entry) []meaning {
	var l []meaning
	for _, m := range []meaning{
		{kind: api.RuleAllow, perms: e.Allow},
		{kind: api.RuleAuditAllow, perms: e.AuditAllow},
		{kind: api.RuleDontAudit, perms: e.DontAudit},
	} {
		if m.perms != 0 {
			m.class, m.cond = e.Class, e.Cond
			l = append(l, m)
		}
	}
	return l
}

// compareRules orders the rules of Compress, of which no two with the same meaning share a source.
func compareRules(a, b api.Rule) int {
	return cmp.Or(
		cmp.Compare(a.Kind, b.Kind), cmp.Compare(a.Class, b.Class), cmp.Compare(a.Cond, b.Cond), cmp.Compare(a.Perms, b.Perms),
		cmp.Compare(bitset.Least(a.Source), bitset.Least(b.Source)),
	)
}
