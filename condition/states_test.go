package condition_test

import (
	"math"
	"slices"
	"testing"

	"accesscontrol/api"
	"accesscontrol/condition"
)

// modelStates returns all states in which a condition has a value.
func modelStates(p api.Policy, n int, value bool) []int {
	var l []int
	for number := range 1 << len(p.Bools) {
		if model(p.Conds[n], bits(len(p.Bools), number)) == value {
			l = append(l, number)
		}
	}
	return l
}

// P18.4: all states, as far as there are few.
func TestStates(t *testing.T) {
	p := policy(t, 3, 5, number(1), and(number(0), number(2)), and(number(0), not(number(0))), op(api.ExprSame, number(2), number(2)))
	for _, x := range []struct {
		n     int
		value bool
		want  []int
	}{
		{0, true, []int{2, 3, 6, 7}}, {0, false, []int{0, 1, 4, 5}},
		{1, true, []int{5, 7}}, {1, false, []int{0, 1, 2, 3, 4, 6}},
		{2, true, nil}, {2, false, []int{0, 1, 2, 3, 4, 5, 6, 7}},
		{3, true, []int{0, 1, 2, 3, 4, 5, 6, 7}}, {3, false, nil},
		{4, true, nil}, {4, false, nil}, {-1, true, nil}, {-1, false, nil}, {math.MaxInt, true, nil}, {math.MinInt, false, nil},
	} {
		checkList(t, "States", condition.States(p, x.n, x.value), x.want)
	}
	checkList(t, "States", condition.States(policy(t, 1, 0), 0, false), nil)
	for seed := range 300 {
		p := newPicker(seed).policy(t)
		for n := range p.Conds {
			for _, value := range []bool{false, true} {
				checkList(t, "States", condition.States(p, n, value), modelStates(p, n, value))
			}
		}
	}
}

// P18.4: at most the first 1024 states.
func TestManyStates(t *testing.T) {
	all := number(0)
	for i := 1; i < 12; i++ {
		all = and(all, number(i))
	}
	high := or(and(number(15), number(14)), and(number(15), number(13)))
	p := policy(t, 16, 0, all, not(number(0)), high, number(15))
	for n := range p.Conds {
		for _, value := range []bool{false, true} {
			want := modelStates(p, n, value)
			checkList(t, "States", condition.States(p, n, value), want[:min(len(want), 1024)])
		}
	}
	for bools, count := range map[int]int{9: 256, 10: 512, 11: 1024, 12: 1024, 16: 1024} {
		l := condition.States(policy(t, bools, 0, number(bools-1)), 0, true)
		if len(l) != count || l[0] != 1<<(bools-1) || !slices.IsSorted(l) {
			t.Errorf("%d booleans: got %d states", bools, len(l))
		}
	}
	exactly := policy(t, 11, 0, op(api.ExprDiffer, number(0), number(10)))
	checkList(t, "States", condition.States(exactly, 0, false), modelStates(exactly, 0, false))
}

// P18.4: a number is in the list exactly if the condition has the value in its state.
func TestStatesAndValues(t *testing.T) {
	for seed := range 200 {
		p := newPicker(seed).policy(t)
		for n := range p.Conds {
			for _, value := range []bool{false, true} {
				l := condition.States(p, n, value)
				for number := range 1 << len(p.Bools) {
					if slices.Contains(l, number) != (condition.Values(p, condition.Numbered(p, number))[n] == value) {
						t.Errorf("the state %d of the condition %d of %s", number, n, brief(p.Conds))
					}
				}
			}
		}
	}
}
