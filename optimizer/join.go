package optimizer

import (
	"slices"

	"accesscontrol/api"
	"accesscontrol/bitset"
)

// The parts of a rule in which two rules may differ that can be joined: in one of them.
const (
	partPerms = iota
	partTarget
	partSource
	parts
)

// face is a rule without one of its parts. Two rules can be joined if they have a face in common.
type face struct {
	without int
	rule    api.Rule
}

func facesOf(r api.Rule) [parts]face {
	var l [parts]face
	for i := range l {
		l[i] = face{i, r}
	}
	l[partPerms].rule.Perms = 0
	l[partTarget].rule.Target = api.Set{}
	l[partSource].rule.Source = api.Set{}
	return l
}

// joiner joins rules.
type joiner struct {
	rules   map[int]api.Rule // those that are left, by their numbers
	numbers map[face][]int   // of the rules with a face, ascending
}

// joined returns rules of which no two can be joined.
func joined(l []api.Rule) []api.Rule {
	j := joiner{map[int]api.Rule{}, map[face][]int{}}
	for n, r := range l {
		j.add(n, r)
	}
	for n := range l {
		j.settle(n)
	}
	var rules []api.Rule
	for n := range l {
		if r, left := j.rules[n]; left {
			rules = append(rules, r)
		}
	}
	return rules
}

func (j *joiner) add(n int, r api.Rule) {
	j.rules[n] = r
	for _, f := range facesOf(r) {
		i, _ := slices.BinarySearch(j.numbers[f], n)
		j.numbers[f] = slices.Insert(j.numbers[f], i, n)
	}
}

func (j *joiner) remove(n int) {
	for _, f := range facesOf(j.rules[n]) {
		i, _ := slices.BinarySearch(j.numbers[f], n)
		j.numbers[f] = slices.Delete(j.numbers[f], i, i+1)
	}
	delete(j.rules, n)
}

// settle joins a rule as long as it can be joined. Then no rule up to its number can be joined: the others of them could not be before, and a join is the only rule that is new.
func (j *joiner) settle(n int) {
	for other, found := j.partner(n); found; other, found = j.partner(n) {
		first, second := min(n, other), max(n, other)
		r := join(j.rules[first], j.rules[second])
		j.remove(first)
		j.remove(second)
		j.add(first, r)
		n = first
	}
}

// partner returns the first other rule with which one can be joined; none for a rule that is not left.
func (j *joiner) partner(n int) (int, bool) {
	r, left := j.rules[n]
	if !left {
		return 0, false
	}
	first, found := 0, false
	for _, f := range facesOf(r) {
		for _, other := range j.numbers[f] {
			if other == n {
				continue
			}
			if !found || other < first {
				first, found = other, true
			}
			break
		}
	}
	return first, found
}

// join returns the join of two rules. They have in common what they do not differ in, so that uniting this changes nothing.
func join(a, b api.Rule) api.Rule {
	a.Source = bitset.Union(a.Source, b.Source)
	a.Target = bitset.Union(a.Target, b.Target)
	a.Perms |= b.Perms
	return a
}
