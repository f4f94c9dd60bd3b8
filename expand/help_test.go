package expand_test

import (
	"fmt"
	"math"
	"slices"
	"testing"

	"accesscontrol/api"
	"accesscontrol/bitset"
	"accesscontrol/expand"
)

// brief writes the beginning of a value.
func brief(x any) string {
	s := fmt.Sprint(x)
	return s[:min(len(s), 500)]
}

// policy returns a policy that has rules alone.
func policy(l ...api.Rule) api.Policy { return api.Policy{Rules: l} }

func checkEntries(t *testing.T, what string, got, want []api.Entry) {
	t.Helper()
	if !slices.Equal(got, want) {
		t.Errorf("%s: got %s, want %s", what, brief(got), brief(want))
	}
}

func checkRules(t *testing.T, what string, got, want []api.Rule) {
	t.Helper()
	if !slices.Equal(got, want) {
		t.Errorf("%s: got %s, want %s", what, brief(got), brief(want))
	}
}

// checkPolicy checks what Entries and Count say of rules.
func checkPolicy(t *testing.T, l []api.Rule, want []api.Entry) {
	t.Helper()
	checkEntries(t, "Entries "+brief(l), expand.Entries(policy(l...)), want)
	if got := expand.Count(policy(l...)); got != len(want) {
		t.Errorf("Count(%s): got %d, want %d", brief(l), got, len(want))
	}
}

// picker picks numbers below its argument, by a rule that the seed begins.
type picker func(int) int

func newPicker(seed int) picker {
	state := uint32(seed)
	return func(n int) int {
		state = state*1664525 + 1013904223
		return int(state>>16) % n
	}
}

// one picks a number of a list.
func (pick picker) one(l ...int) int { return l[pick(len(l))] }

// set picks a set of few numbers, which may be empty.
func (pick picker) set() api.Set {
	var s api.Set
	for pick(6) != 0 {
		s = bitset.With(s, pick.one(0, 1, 2, 64, 255))
	}
	return s
}

// rules picks rules with few different numbers, of which some can only occur in an invalid policy.
func (pick picker) rules() []api.Rule {
	var l []api.Rule
	for range pick(12) {
		l = append(l, api.Rule{
			Kind:   pick.one(api.RuleAllow, api.RuleAllow, api.RuleAllow, api.RuleAuditAllow, api.RuleDontAudit, api.RuleNeverAllow, api.RuleNeverAllow, 0, -1, 5),
			Source: pick.set(), Target: pick.set(), Self: pick(3) == 0,
			Class: pick.one(0, 0, 0, 0, 1, math.MaxInt), Perms: uint32(pick.one(1, 1, 2, 3, 3, 7, 0, 1<<31)),
			Cond: pick.one(0, 0, 1, -1, math.MinInt),
		})
	}
	return l
}

// entries picks entries of types, or with any numbers.
func (pick picker) entries(typesOnly bool) []api.Entry {
	types := []int{0, 1, 255}
	if !typesOnly {
		types = append(types, -1, 256, math.MinInt, math.MaxInt)
	}
	vector := func() uint32 { return uint32(pick.one(0, 0, 1, 1, 1, 2, 1<<31)) }
	var l []api.Entry
	for range pick(24) {
		l = append(l, api.Entry{
			Source: pick.one(types...), Target: pick.one(types...), Class: pick.one(0, 0, 0, -1, math.MaxInt),
			Cond: pick.one(0, 0, 0, 1, -1, math.MinInt), Allow: vector(), AuditAllow: vector(), DontAudit: vector(),
		})
	}
	return l
}

// shuffled returns a list in another order.
func shuffled[T any](pick picker, l []T) []T {
	l = slices.Clone(l)
	for i := range l {
		j := pick(i + 1)
		l[i], l[j] = l[j], l[i]
	}
	return l
}
