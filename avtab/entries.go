package avtab

import (
	"cmp"
	"slices"

	"accesscontrol/api"
)

// index finds the entries of a list by a key, which is some of their numbers.
type index[K comparable] struct {
	entries []api.Entry
	places  map[K][]int // in entries, ascending
}

func indexBy[K comparable](l []api.Entry, keyOf func(api.Entry) K) index[K] {
	places := map[K][]int{}
	for i, e := range l {
		k := keyOf(e)
		places[k] = append(places[k], i)
	}
	return index[K]{l, places}
}

// find returns the entries that have a key, in the order of the list.
func (x index[K]) find(k K) []api.Entry {
	var found []api.Entry
	for _, i := range x.places[k] {
		found = append(found, x.entries[i])
	}
	return found
}

// merged returns entries as a table has them: merged and ascending.
func merged(l []api.Entry) []api.Entry {
	var all []api.Entry
	for _, e := range slices.SortedFunc(slices.Values(l), compare) {
		if e.Allow|e.AuditAllow|e.DontAudit != 0 {
			all = join(all, e)
		}
	}
	return all
}

// join adds an entry at the end of ascending entries, or to the last of them if it has the same numbers.
func join(l []api.Entry, e api.Entry) []api.Entry {
	if len(l) == 0 || compare(l[len(l)-1], e) != 0 {
		return append(l, e)
	}
	last := &l[len(l)-1]
	last.Allow |= e.Allow
	last.AuditAllow |= e.AuditAllow
	last.DontAudit |= e.DontAudit
	return l
}

// caseOf returns the source, the target and the class of an entry.
func caseOf(e api.Entry) [3]int { return [3]int{e.Source, e.Target, e.Class} }

func compare(a, b api.Entry) int {
	return cmp.Or(cmp.Compare(a.Source, b.Source), cmp.Compare(a.Target, b.Target), cmp.Compare(a.Class, b.Class), cmp.Compare(a.Cond, b.Cond))
}
