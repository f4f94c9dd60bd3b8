package optimizer

import (
	"slices"

	"accesscontrol/api"
)

// sameTransitions reports whether the transitions of two policies, without those that are active in no state, are the same.
func sameTransitions(a, b *api.Policy) bool {
	s := scenesOf(a, b)
	first := slices.DeleteFunc(slices.Clone(a.Trans), func(t api.Trans) bool {
		return !slices.ContainsFunc(s.all, func(v scene) bool { return isActive(t.Cond, v.first) })
	})
	second := slices.DeleteFunc(slices.Clone(b.Trans), func(t api.Trans) bool {
		return !slices.ContainsFunc(s.all, func(v scene) bool { return isActive(t.Cond, v.second) })
	})
	return slices.EqualFunc(first, second, s.sameTransition)
}

// sameTransition reports whether transitions of the first and of the second policy are equal in all but Cond, and active in the same states.
func (s *scenes) sameTransition(x, y api.Trans) bool {
	first, second := x.Cond, y.Cond
	x.Cond, y.Cond = 0, 0
	return x == y && !slices.ContainsFunc(s.all, func(v scene) bool {
		return isActive(first, v.first) != isActive(second, v.second)
	})
}
