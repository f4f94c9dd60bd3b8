package conflict

import (
	"cmp"
	"slices"

	"accesscontrol/api"
)

// pair is the numbers of two elements of a list; a is less than b.
type pair struct{ a, b int }

// pairs returns the pairs of elements with the same key that clash, ordered by a and then by b. Elements with different keys are not compared.
func pairs[T any, K comparable](l []T, key func(T) K, clash func(a, b T) bool) []pair {
	var found []pair
	before := map[K][]int{}
	for b, x := range l {
		k := key(x)
		for _, a := range before[k] {
			if clash(l[a], x) {
				found = append(found, pair{a, b})
			}
		}
		before[k] = append(before[k], b)
	}
	slices.SortFunc(found, func(x, y pair) int {
		return cmp.Or(cmp.Compare(x.a, y.a), cmp.Compare(x.b, y.b))
	})
	return found
}

// conflictsOf returns the conflicts of elements of a list of a policy.
func conflictsOf[T any, K comparable](l []T, key func(T) K, clash func(a, b T) bool, name func(T) string) []api.Conflict {
	var conflicts []api.Conflict
	for _, p := range pairs(l, key, clash) {
		conflicts = append(conflicts, api.Conflict{Code: api.ErrConflict, A: p.a, B: p.b, Name: name(l[p.a])})
	}
	return conflicts
}
