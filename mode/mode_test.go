package mode_test

import (
	"math"
	"reflect"
	"slices"
	"testing"

	"accesscontrol/api"
	"accesscontrol/mode"
)

// The examples of the chapter.
func TestExamples(t *testing.T) {
	d := decision(3, 1, 4)
	checkJudge(t, d, 7, true, api.Verdict{Denied: 4, AuditGrant: 1, AuditDeny: 4})
	checkJudge(t, d, 7, false, api.Verdict{Granted: true, Denied: 4, AuditGrant: 1, AuditDeny: 4, Permissive: true})
	checkJudge(t, d, 3, true, api.Verdict{Granted: true, AuditGrant: 1})
	checkJudge(t, d, 3, false, api.Verdict{Granted: true, AuditGrant: 1})
	for _, p := range []api.Policy{types(false, false, false), types(true, true, true), types(false, true, false)} {
		if got := mode.Permissive(mode.With(p, []int{2, 7, 2})); !slices.Equal(got, []int{2}) {
			t.Errorf("With of %v: got %v", p, got)
		}
	}
}

// P30.1: the cases of requests, modes and domains.
func TestJudge(t *testing.T) {
	const all = math.MaxUint32
	granted := api.Verdict{Granted: true}
	for _, d := range []api.Decision{{}, decision(5, 2, 2), decision(all, 0, all)} {
		for _, enforcing := range []bool{false, true} { // nothing of what is requested is denied
			checkJudge(t, d, 0, enforcing, granted)
			checkJudge(t, permissive(d), 0, enforcing, granted)
			checkJudge(t, d, d.Allowed, enforcing, granted)
			checkJudge(t, permissive(d), d.Allowed, enforcing, granted)
		}
	}
	d := decision(1, all, all)
	checkJudge(t, d, 2, true, api.Verdict{Denied: 2, AuditDeny: 2})
	tolerated := api.Verdict{Granted: true, Denied: 2, AuditDeny: 2, Permissive: true}
	checkJudge(t, d, 2, false, tolerated)
	checkJudge(t, permissive(d), 2, true, tolerated)
	checkJudge(t, permissive(d), 2, false, tolerated)
	checkJudge(t, d, all, true, api.Verdict{Denied: all - 1, AuditGrant: 1, AuditDeny: all - 1})
	checkJudge(t, decision(1<<31, all, all), all, true, api.Verdict{Denied: 1<<31 - 1, AuditGrant: 1 << 31, AuditDeny: 1<<31 - 1})

	// What dontaudit rules silence, and what no auditallow rule has, is not audited.
	checkJudge(t, decision(3, 0, 0), 7, true, api.Verdict{Denied: 4})
	checkJudge(t, decision(3, 4, 3), 7, true, api.Verdict{Denied: 4}) // the other way round
	checkJudge(t, decision(3, 12, 12), 7, true, api.Verdict{Denied: 4, AuditDeny: 4})
	checkJudge(t, decision(3, 8, 8), 3, false, granted) // 8 is not requested
}

// P30.1: Audited, of any verdict.
func TestAudited(t *testing.T) {
	for _, a := range bits {
		for _, b := range bits {
			for _, v := range []api.Verdict{{}, {Granted: true, Permissive: true}, {Denied: math.MaxUint32}} {
				v.AuditGrant, v.AuditDeny = a, b
				if got := mode.Audited(v); got != a|b {
					t.Errorf("Audited(%v): got %b", v, got)
				}
			}
		}
	}
}

// P30.2: the numbers of permissive types, ascending.
func TestPermissive(t *testing.T) {
	for _, c := range []struct {
		types []bool
		want  []int
	}{
		{},
		{[]bool{false}, nil},
		{[]bool{true}, []int{0}},
		{[]bool{false, true, false, true, true}, []int{1, 3, 4}},
	} {
		if got := mode.Permissive(types(c.types...)); !slices.Equal(got, c.want) {
			t.Errorf("Permissive of %v: got %v", c.types, got)
		}
	}
	many := make([]bool, 1000) // more types than a policy may have
	many[0], many[256], many[999] = true, true, true
	if got := mode.Permissive(types(many...)); !slices.Equal(got, []int{0, 256, 999}) {
		t.Errorf("got %v", got)
	}
}

// P30.2: the listed types, and no others, are permissive; numbers without a type have no effect.
func TestWith(t *testing.T) {
	for _, c := range []struct {
		types []bool
		l     []int
		want  []bool
	}{
		{nil, nil, nil},
		{nil, []int{0, 1}, nil},
		{[]bool{true, false, true}, nil, []bool{false, false, false}},
		{[]bool{true, false, true}, []int{}, []bool{false, false, false}},
		{[]bool{true, false, false}, []int{1}, []bool{false, true, false}},
		{[]bool{true, false, false}, []int{2, 0, 2, 0}, []bool{true, false, true}},
		{[]bool{false, true}, []int{-1, 2, 3, 256, math.MinInt, math.MaxInt}, []bool{false, false}},
		{[]bool{false, true}, []int{-1, 0, 2, -2}, []bool{true, false}},
	} {
		if got := mode.With(types(c.types...), c.l); !reflect.DeepEqual(got, types(c.want...)) {
			t.Errorf("With(%v, %v): got %v", c.types, c.l, got)
		}
	}
	many := mode.With(types(make([]bool, 1000)...), []int{999, 300})
	if got := mode.Permissive(many); !slices.Equal(got, []int{300, 999}) {
		t.Errorf("got %v", got)
	}
}

// whole returns a policy that need not be valid, with something in all its lists. Each call returns new memory.
func whole() api.Policy {
	e := api.Expr{Op: api.ExprNot, Names: []string{"n"}, Kids: []api.Expr{{Op: 99, Names: []string{"m"}}}}
	return api.Policy{
		Classes:     []api.Class{{Name: "file", Perms: []string{"read", "write"}}},
		Types:       []api.Type{{Name: "a", Aliases: []string{"b", "c"}}, {Name: "d", Permissive: true}},
		Attrs:       []api.Attr{{Name: "x"}},
		Roles:       []api.Role{{Name: "r"}},
		Users:       []api.User{{Name: "u"}},
		Bools:       []api.Bool{{Name: "y", Value: true}},
		Sens:        []string{"s0"},
		Cats:        []string{"c0", "c1"},
		Conds:       []api.Expr{e},
		Rules:       []api.Rule{{Kind: 1, Cond: -5}},
		Trans:       []api.Trans{{Kind: 9, Name: "log"}},
		RoleTrans:   []api.RoleTrans{{Result: 77}},
		Ranges:      []api.RangeTrans{{Class: -1}},
		Constraints: []api.Constraint{{Expr: api.Expr{Kids: []api.Expr{e}}}},
		Sids:        []api.InitialSid{{Name: "kernel"}},
		Files:       []api.FileRule{{Pattern: "/x"}},
		Asserts:     []api.Assert{{Name: "z"}},
	}
}

// P30.2: all else of a policy is the same, and With(p, Permissive(p)) is p.
func TestWithTheRest(t *testing.T) {
	p := whole()
	if got := mode.With(p, mode.Permissive(p)); !reflect.DeepEqual(got, p) {
		t.Errorf("got %v", got)
	}
	want := whole()
	want.Types[0].Permissive, want.Types[1].Permissive = true, false
	if got := mode.With(p, []int{0}); !reflect.DeepEqual(got, want) {
		t.Errorf("got %v", got)
	}
	if got := mode.With(api.Policy{}, []int{0}); !reflect.DeepEqual(got, api.Policy{}) {
		t.Errorf("got %v", got)
	}
}

// With changes neither the policy nor the list, and its result shares no memory with the policy.
func TestWithMemory(t *testing.T) {
	p, l := whole(), []int{1, 0, 5, 1}
	got := mode.With(p, l)
	want := mode.With(whole(), l)
	if !reflect.DeepEqual(p, whole()) || !slices.Equal(l, []int{1, 0, 5, 1}) {
		t.Errorf("an argument is changed: %v, %v", p, l)
	}
	spoil := func(p *api.Policy) {
		p.Types[0].Aliases[1], p.Types[1].Name, p.Classes[0].Perms[0], p.Sens[0], p.Rules[0].Kind = "", "", "", "", 0
		p.Conds[0].Kids[0].Names[0], p.Conds[0].Names[0], p.Constraints[0].Expr.Kids[0].Op = "", "", 0
		p.Sids[0].Name, p.Files[0].Pattern, p.Bools[0].Value, p.Trans[0].Name = "", "", false, ""
	}
	spoil(&p)
	if !reflect.DeepEqual(got, want) {
		t.Error("the result is changed")
	}
	p = whole()
	spoil(&got)
	if !reflect.DeepEqual(p, whole()) {
		t.Error("the policy is changed")
	}
	numbers := mode.Permissive(p)
	numbers[0] = 5
	if got := mode.Permissive(p); got[0] != 1 {
		t.Error("the results share memory")
	}
}

// P30.3: what Worst has of each of the verdicts.
func TestWorst(t *testing.T) {
	granted := api.Verdict{Granted: true}
	refused := api.Verdict{Denied: 4, AuditDeny: 4}
	tolerated := api.Verdict{Granted: true, Denied: 2, AuditGrant: 1, Permissive: true}
	checkWorst(t, granted, granted, granted)
	checkWorst(t, refused, refused, refused)
	checkWorst(t, tolerated, tolerated, tolerated)
	checkWorst(t, granted, refused, refused)
	checkWorst(t, granted, tolerated, tolerated)
	checkWorst(t, refused, tolerated, api.Verdict{Denied: 6, AuditGrant: 1, AuditDeny: 4})
	checkWorst(t, api.Verdict{}, api.Verdict{}, api.Verdict{})
	checkWorst(t, api.Verdict{}, granted, api.Verdict{})
	checkWorst(t, api.Verdict{Denied: 1, AuditGrant: 2, AuditDeny: 4}, api.Verdict{Denied: 8, AuditGrant: 16, AuditDeny: 32}, api.Verdict{Denied: 9, AuditGrant: 18, AuditDeny: 36})

	// Verdicts that Judge does not return: permissive, and not granted.
	odd := api.Verdict{Denied: 1, Permissive: true}
	checkWorst(t, odd, odd, api.Verdict{Denied: 1})
	checkWorst(t, odd, granted, api.Verdict{Denied: 1})
	checkWorst(t, odd, tolerated, api.Verdict{Denied: 3, AuditGrant: 1})
	checkWorst(t, api.Verdict{Granted: true, Permissive: true}, granted, api.Verdict{Granted: true, Permissive: true})
}
