package expand

import (
	"accesscontrol/api"
	"accesscontrol/bitset"
)

// types is how many types a set can have.
const types = 256

// place is what rules have in common if their entries can have the same key.
type place struct{ class, cond int }

// row has the vectors of the entries of one source and place, by their targets.
type row [types]vectors

// eachRow visits the rows of rules, each once, in no order. It keeps one row at a time, because all of them may be far larger than the rules.
func eachRow(l []api.Rule, visit func(source int, at place, r *row)) {
	var r row
	for at, rules := range byPlace(l) {
		for _, source := range bitset.List(sources(rules)) {
			clear(r[:])
			for _, rule := range rules {
				if bitset.Has(rule.Source, source) {
					r.add(rule, source)
				}
			}
			visit(source, at, &r)
		}
	}
}

// byPlace returns the rules that have entries.
func byPlace(l []api.Rule) map[place][]api.Rule {
	rules := map[place][]api.Rule{}
	for _, r := range l {
		if ruleVectors(r) != (vectors{}) {
			at := place{r.Class, r.Cond}
			rules[at] = append(rules[at], r)
		}
	}
	return rules
}

func sources(l []api.Rule) api.Set {
	var s api.Set
	for _, r := range l {
		s = bitset.Union(s, r.Source)
	}
	return s
}

// targets returns the targets of a rule for one of its sources.
func targets(r api.Rule, source int) api.Set {
	if r.Self {
		return bitset.With(r.Target, source)
	}
	return r.Target
}

func (r *row) add(rule api.Rule, source int) {
	v, all := ruleVectors(rule), targets(rule, source)
	for target := range r {
		if bitset.Has(all, target) {
			r[target] = r[target].union(v)
		}
	}
}
