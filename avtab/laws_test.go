package avtab_test

import (
	"slices"
	"testing"

	"accesscontrol/api"
	"accesscontrol/avtab"
	"accesscontrol/bitset"
	"accesscontrol/expand"
)

// visible says by the definition whether an entry is visible.
func visible(cond int, values []bool) bool {
	for n, value := range values {
		if cond == n+1 || cond == -(n+1) {
			return value == (cond > 0)
		}
	}
	return cond <= 0
}

// modelFind joins the visible entries of a case.
func modelFind(l []api.Entry, values []bool, source, target, class int) [3]uint32 {
	var v [3]uint32
	for _, e := range l {
		if e.Source == source && e.Target == target && e.Class == class && visible(e.Cond, values) {
			v = [3]uint32{v[0] | e.Allow, v[1] | e.AuditAllow, v[2] | e.DontAudit}
		}
	}
	return v
}

// modelTargets returns the targets for which something is visible, with all of the permissions allowed.
func modelTargets(l []api.Entry, values []bool, source, class int, perms uint32) []int {
	var found []int
	for _, target := range types() {
		if v := modelFind(l, values, source, target, class); v != [3]uint32{} && v[0]&perms == perms {
			found = append(found, target)
		}
	}
	slices.Sort(found)
	return found
}

// reversed exchanges sources and targets.
func reversed(l []api.Entry) []api.Entry {
	l = slices.Clone(l)
	for i, e := range l {
		l[i].Source, l[i].Target = e.Target, e.Source
	}
	return l
}

// P16.1 to P16.3: answers are those of the definitions.
func TestModel(t *testing.T) {
	conditional, some := 0, 0
	for seed := range 200 {
		pick := newPicker(seed)
		l, values := pick.entries(), pick.values()
		x := avtab.New(l)
		x.Activate(values)
		checkEntries(t, "Entries", x.Entries(), expand.Merge(l))
		var seen []api.Entry
		for _, e := range l {
			if visible(e.Cond, values) {
				e.Cond = 0
				seen = append(seen, e)
			}
		}
		checkEntries(t, "Visible", x.Visible(), expand.Merge(seen))
		if len(x.Visible()) < x.Len() && len(values) > 0 {
			conditional++
		}
		for _, class := range classes() {
			for _, a := range types() {
				for _, b := range types() {
					checkFind(t, x, a, b, class, modelFind(l, values, a, b, class))
				}
				for _, perms := range []uint32{0, 1, 2, 3, 1 << 31} {
					targets := modelTargets(l, values, a, class, perms)
					checkNumbers(t, "Targets", x.Targets(a, class, perms), targets)
					checkNumbers(t, "Sources", x.Sources(a, class, perms), modelTargets(reversed(l), values, a, class, perms))
					if perms != 0 && len(targets) > 1 {
						some++
					}
				}
			}
		}
	}
	if conditional < 100 || some < 100 {
		t.Errorf("got %d tables in which values count, and %d lists of targets", conditional, some)
	}
}

// P16.4: copies follow their own values.
func TestCopies(t *testing.T) {
	for seed := range 200 {
		pick := newPicker(seed)
		x := avtab.New(pick.entries())
		x.Activate(pick.values())
		c, same := x.Copy(), x.Copy()
		checkSame(t, c, x)
		values := pick.values()
		x.Activate(values)
		checkSame(t, c, same)
		c.Activate(values)
		checkSame(t, c, x)
	}
}

// P16.5: neither the order nor the division of entries counts, and values can be restored.
func TestOrderAndValues(t *testing.T) {
	for seed := range 200 {
		pick := newPicker(seed)
		l, values := pick.entries(), pick.values()
		var divided []api.Entry
		for _, e := range l {
			a, b, c := e, e, e
			a.AuditAllow, a.DontAudit = 0, e.DontAudit&1
			b.Allow, b.DontAudit = e.Allow&2, 0
			c.AuditAllow = 0
			divided = append(divided, a, b, c)
		}
		x, y := avtab.New(l), avtab.New(shuffled(pick, divided))
		x.Activate(values)
		y.Activate(values)
		checkSame(t, y, x)
		checkSame(t, avtab.New(x.Entries()), avtab.New(l))
		x.Activate(pick.values())
		x.Visible()
		x.Activate(values)
		checkSame(t, x, y)
	}
}

// rules picks rules of three types and classes, with up to three conditions.
func (pick picker) rules() []api.Rule {
	set := func() api.Set { return bitset.Of(pick.one(0, 1, 255), pick.one(0, 1, 255)) }
	var l []api.Rule
	for range pick(20) {
		l = append(l, api.Rule{
			Kind: 1 + pick(4), Source: set(), Target: set(), Self: pick(4) == 0, Class: pick(2),
			Perms: uint32(1 + pick(7)), Cond: pick.one(0, 0, 1, -1, 2, -2, 3, -3),
		})
	}
	return l
}

// active returns the permissions that the active rules of a kind have for a case.
func active(l []api.Rule, values []bool, kind, source, target, class int) uint32 {
	var perms uint32
	for _, r := range l {
		if r.Kind == kind && r.Class == class && visible(r.Cond, values) && slices.Contains(expand.Rule(r), [2]int{source, target}) {
			perms |= r.Perms
		}
	}
	return perms
}

// P16.6: the table of the entries of a policy says what the active rules say.
func TestTableOfRules(t *testing.T) {
	found := 0
	for seed := range 200 {
		pick := newPicker(seed)
		l, values := pick.rules(), pick.values()
		x := avtab.New(expand.Entries(api.Policy{Rules: l}))
		x.Activate(values)
		for _, source := range []int{0, 1, 2, 255} {
			for _, target := range []int{0, 1, 2, 255} {
				for class := range 3 {
					want := [3]uint32{
						active(l, values, api.RuleAllow, source, target, class),
						active(l, values, api.RuleAuditAllow, source, target, class),
						active(l, values, api.RuleDontAudit, source, target, class),
					}
					checkFind(t, x, source, target, class, want)
					if want[0] != 0 && want[1]|want[2] != 0 {
						found++
					}
				}
			}
		}
	}
	if found < 300 {
		t.Errorf("got %d cases with several kinds of permissions", found)
	}
}
