package mode_test

import (
	"slices"
	"testing"

	"accesscontrol/api"
	"accesscontrol/mode"
)

// has reports whether a vector has a permission.
func has(v uint32, perm int) bool { return v>>perm&1 == 1 }

// judge returns a verdict by the words of the chapter, permission by permission.
func judge(d api.Decision, perms uint32, enforcing bool) api.Verdict {
	var v api.Verdict
	for n := range 32 {
		bit := uint32(1) << n
		switch allowed := has(d.Allowed, n); {
		case !has(perms, n):
		case allowed && has(d.AuditAllow, n):
			v.AuditGrant |= bit
		case !allowed:
			v.Denied |= bit
			if has(d.AuditDeny, n) {
				v.AuditDeny |= bit
			}
		}
	}
	tolerated := !enforcing || d.Permissive
	v.Granted = v.Denied == 0 || tolerated
	v.Permissive = v.Denied != 0 && tolerated
	return v
}

// worst returns the worst of two verdicts by the words of the chapter.
func worst(a, b api.Verdict) api.Verdict {
	var w api.Verdict
	for n := range 32 {
		bit := uint32(1) << n
		if has(a.Denied, n) || has(b.Denied, n) {
			w.Denied |= bit
		}
		if has(a.AuditGrant, n) || has(b.AuditGrant, n) {
			w.AuditGrant |= bit
		}
		if has(a.AuditDeny, n) || has(b.AuditDeny, n) {
			w.AuditDeny |= bit
		}
	}
	if a.Granted && b.Granted {
		w.Granted = true
		w.Permissive = a.Permissive || b.Permissive
	}
	return w
}

// P30.1, P30.3: any decisions, permissions and verdicts.
func TestModel(t *testing.T) {
	pick := newPicker(1)
	permissive, refused := 0, 0
	for range 50000 {
		d, perms, enforcing := pick.decision(), pick.vector(), pick(2) == 0
		want := judge(d, perms, enforcing)
		checkJudge(t, d, perms, enforcing, want)
		if want.Permissive {
			permissive++
		}
		if !want.Granted {
			refused++
		}
		a, b := pick.verdict(), pick.verdict()
		if pick(3) == 0 {
			b = a
		}
		checkWorst(t, a, b, worst(a, b))
	}
	if permissive < 1000 || refused < 1000 {
		t.Errorf("only %d verdicts are permissive, and %d requests are refused", permissive, refused)
	}
}

// P30.3: a request is judged by judging two parts of it, which may overlap.
func TestParts(t *testing.T) {
	pick := newPicker(2)
	for range 50000 {
		d, perms, enforcing := pick.decision(), pick.vector(), pick(2) == 0
		first := perms & pick.vector()
		second := perms&^first | perms&pick.vector()
		checkWorst(t, mode.Judge(d, first, enforcing), mode.Judge(d, second, enforcing), mode.Judge(d, perms, enforcing))
	}
}

// P30.4, P30.5: when a request is granted, and what does not depend on the mode.
func TestConsequences(t *testing.T) {
	pick := newPicker(3)
	for range 50000 {
		d, perms := pick.decision(), pick.vector()
		on, off := mode.Judge(d, perms, true), mode.Judge(d, perms, false)
		if want := d.Permissive || perms&d.Allowed == perms; on.Granted != want || !off.Granted {
			t.Errorf("%v, %b: got %v, %v", d, perms, on, off)
		}
		if on.Denied != off.Denied || on.AuditGrant != off.AuditGrant || on.AuditDeny != off.AuditDeny {
			t.Errorf("%v, %b: got %v, %v", d, perms, on, off)
		}
		if on.AuditGrant&on.AuditDeny != 0 || mode.Audited(on)&^perms != 0 {
			t.Errorf("%v, %b: got %v", d, perms, on)
		}
	}
}

// P30.2: Permissive of With has the numbers of types in the list, and With(p, Permissive(p)) is p.
func TestTypes(t *testing.T) {
	pick := newPicker(4)
	for range 2000 {
		var is []bool
		for range pick(8) {
			is = append(is, pick(2) == 0)
		}
		var l, want []int
		for range pick(8) {
			l = append(l, pick(12)-2)
		}
		for n := range is {
			if slices.Contains(l, n) {
				want = append(want, n)
			}
		}
		p := types(is...)
		if got := mode.Permissive(mode.With(p, l)); !slices.Equal(got, want) {
			t.Errorf("With(%v, %v): got %v", is, l, got)
		}
		same := func(a, b api.Type) bool { return a.Name == b.Name && a.Permissive == b.Permissive }
		if got := mode.With(p, mode.Permissive(p)); !slices.EqualFunc(got.Types, types(is...).Types, same) {
			t.Errorf("got %v, want %v", got.Types, is)
		}
	}
}
