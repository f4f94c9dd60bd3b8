package optimizer

import (
	"accesscontrol/api"
)

// usedBy returns the Conds of the rules and transitions of a policy.
func usedBy(p *api.Policy) map[int]bool {
	used := map[int]bool{}
	for i := range p.Rules {
		used[p.Rules[i].Cond] = true
	}
	for i := range p.Trans {
		used[p.Trans[i].Cond] = true
	}
	return used
}

// renumbering is which conditions of a policy are kept, and the Conds that replace those of the policy; a Cond that is never active is replaced by none.
type renumbering struct {
	kept  []int
	conds map[int]int
}

// renumber chooses the conditions that are kept, of those that are used.
func renumber(values []uint64, count int, used map[int]bool) renumbering {
	r := renumbering{conds: map[int]int{0: 0}}
	for i := range count {
		cond := i + 1
		switch value, constant := constantOf(values, i); {
		case constant && value:
			r.conds[cond] = 0
		case constant:
			r.conds[-cond] = 0
		case used[cond] || used[-cond]:
			r.conds[cond] = r.keep(values, i)
			r.conds[-cond] = -r.conds[cond]
		}
	}
	return r
}

// keep returns the Cond that replaces a condition: that of a kept one, or of its negation, if this has the same values; otherwise it is kept, too.
func (r *renumbering) keep(values []uint64, i int) int {
	for n, kept := range r.kept {
		if sign := compare(values, kept, i); sign != 0 {
			return sign * (n + 1)
		}
	}
	r.kept = append(r.kept, i)
	return len(r.kept)
}

// constantOf returns the value of a condition, and whether it has it in all states.
func constantOf(values []uint64, i int) (value, constant bool) {
	all, some := ^uint64(0), uint64(0)
	for _, v := range values {
		all &= v
		some |= v
	}
	return all>>i&1 == 1, all>>i&1 == some>>i&1
}

// compare returns 1 if two conditions have the same value in all states, -1 if they never have, and otherwise 0.
func compare(values []uint64, i, j int) int {
	sign := 0
	for _, v := range values {
		now := 1
		if v>>i&1 != v>>j&1 {
			now = -1
		}
		if sign == -now {
			return 0
		}
		sign = now
	}
	return sign
}

// renumbered returns those of rules or transitions that are active in some state, with other Conds.
func renumbered[T any](r renumbering, l []T, condOf func(*T) *int) []T {
	var some []T
	for _, x := range l {
		cond, found := r.conds[*condOf(&x)]
		if found {
			*condOf(&x) = cond
			some = append(some, x)
		}
	}
	return some
}
