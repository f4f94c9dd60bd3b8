package avtab_test

import (
	"fmt"
	"math"
	"slices"
	"testing"

	"accesscontrol/api"
	"accesscontrol/avtab"
)

// brief writes the beginning of a value.
func brief(x any) string {
	s := fmt.Sprint(x)
	return s[:min(len(s), 500)]
}

func checkEntries(t *testing.T, what string, got, want []api.Entry) {
	t.Helper()
	if !slices.Equal(got, want) {
		t.Errorf("%s: got %s, want %s", what, brief(got), brief(want))
	}
}

func checkNumbers(t *testing.T, what string, got, want []int) {
	t.Helper()
	if !slices.Equal(got, want) {
		t.Errorf("%s: got %s, want %s", what, brief(got), brief(want))
	}
}

// checkFind checks the permissions for a source, a target and a class.
func checkFind(t *testing.T, x *avtab.Table, source, target, class int, want [3]uint32) {
	t.Helper()
	a, b, c := x.Find(source, target, class)
	if got := [3]uint32{a, b, c}; got != want {
		t.Errorf("Find(%d, %d, %d): got %v, want %v", source, target, class, got, want)
	}
}

// checkSame checks that two tables give the same answers.
func checkSame(t *testing.T, got, want *avtab.Table) {
	t.Helper()
	checkEntries(t, "Entries", got.Entries(), want.Entries())
	checkEntries(t, "Visible", got.Visible(), want.Visible())
	if got.Len() != want.Len() {
		t.Errorf("Len: got %d, want %d", got.Len(), want.Len())
	}
	for _, e := range want.Entries() {
		a, b, c := want.Find(e.Source, e.Target, e.Class)
		checkFind(t, got, e.Source, e.Target, e.Class, [3]uint32{a, b, c})
		checkNumbers(t, "Targets", got.Targets(e.Source, e.Class, e.Allow), want.Targets(e.Source, e.Class, e.Allow))
		checkNumbers(t, "Sources", got.Sources(e.Target, e.Class, e.Allow), want.Sources(e.Target, e.Class, e.Allow))
	}
}

// picker picks numbers below its argument, by a rule that the seed begins.
type picker func(int) int

func newPicker(seed int) picker {
	state := uint32(seed)
	return func(n int) int {
		state = state*1664525 + 1013904223
		return int(state>>16) % n
	}
}

// one picks a number of a list.
func (pick picker) one(l ...int) int { return l[pick(len(l))] }

// The numbers of random entries; those of conditions reach behind all values that are activated.
func types() []int   { return []int{0, 1, 2, 300, -1, math.MinInt, math.MaxInt} }
func classes() []int { return []int{0, 1, math.MaxInt, -9} }
func conds() []int {
	return []int{0, 0, 0, 0, 1, -1, 2, -2, 3, -3, 4, -4, math.MaxInt, math.MinInt, -math.MaxInt}
}

func (pick picker) entries() []api.Entry {
	vector := func() uint32 { return uint32(pick.one(0, 0, 1, 2, 3, 1<<31)) }
	few := 1 + pick(len(types()))
	var l []api.Entry
	for range pick(40) {
		l = append(l, api.Entry{
			Source: pick.one(types()[:few]...), Target: pick.one(types()[:few]...), Class: pick.one(classes()...), Cond: pick.one(conds()...),
			Allow: vector(), AuditAllow: vector(), DontAudit: vector(),
		})
	}
	return l
}

// values picks values of up to four conditions.
func (pick picker) values() []bool {
	var l []bool
	for range pick(5) {
		l = append(l, pick(2) == 0)
	}
	return l
}

// shuffled returns a list in another order.
func shuffled[T any](pick picker, l []T) []T {
	l = slices.Clone(l)
	for i := range l {
		j := pick(i + 1)
		l[i], l[j] = l[j], l[i]
	}
	return l
}
