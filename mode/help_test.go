package mode_test

import (
	"math"
	"testing"

	"accesscontrol/api"
	"accesscontrol/mode"
)

// bits are vectors of which each bit of three is in some and not in others, and the first and the last one of all.
var bits = []uint32{0, 1, 2, 3, 4, 5, 6, 7, 1 << 31, 1<<31 | 1, math.MaxUint32}

// decision returns a decision that is not permissive.
func decision(allowed, auditAllow, auditDeny uint32) api.Decision {
	return api.Decision{Allowed: allowed, AuditAllow: auditAllow, AuditDeny: auditDeny, Seq: 7}
}

// permissive returns a decision about a permissive domain.
func permissive(d api.Decision) api.Decision {
	d.Permissive = true
	return d
}

func checkJudge(t *testing.T, d api.Decision, perms uint32, enforcing bool, want api.Verdict) {
	t.Helper()
	if got := mode.Judge(d, perms, enforcing); got != want {
		t.Errorf("Judge(%v, %b, %v): got %v, want %v", d, perms, enforcing, got, want)
	}
}

func checkWorst(t *testing.T, a, b, want api.Verdict) {
	t.Helper()
	if got := mode.Worst(a, b); got != want {
		t.Errorf("Worst(%v, %v): got %v, want %v", a, b, got, want)
	}
	if got := mode.Worst(b, a); got != want {
		t.Errorf("Worst(%v, %v): got %v, want %v", b, a, got, want)
	}
}

// types returns a policy whose types are permissive or not.
func types(l ...bool) api.Policy {
	var p api.Policy
	for n, permissive := range l {
		p.Types = append(p.Types, api.Type{Name: string(rune('a' + n)), Permissive: permissive})
	}
	return p
}

// picker picks numbers below its argument, by a rule that the seed begins.
type picker func(int) int

func newPicker(seed int) picker {
	state := uint32(seed)
	return func(n int) int {
		state = state*1664525 + 1013904223
		return int(state>>16) % n
	}
}

// vector picks an access vector.
func (pick picker) vector() uint32 {
	v := uint32(pick(1<<16) | pick(1<<16)<<16)
	switch pick(4) {
	case 0:
		return bits[pick(len(bits))]
	case 1:
		return v & uint32(pick(1<<16)|pick(1<<16)<<16)
	}
	return v
}

func (pick picker) decision() api.Decision {
	return api.Decision{Allowed: pick.vector(), AuditAllow: pick.vector(), AuditDeny: pick.vector(), Permissive: pick(3) == 0, Seq: pick(5)}
}

// verdict picks any verdict, also one that Judge does not return.
func (pick picker) verdict() api.Verdict {
	return api.Verdict{Granted: pick(2) == 0, Denied: pick.vector(), AuditGrant: pick.vector(), AuditDeny: pick.vector(), Permissive: pick(2) == 0}
}
