package decide_test

import (
	"testing"

	"accesscontrol/api"
)

// P20.3: the rules of the reasons are the first ones.
func TestWhyRules(t *testing.T) {
	a := ask(t, base+`
auditallow a b : file *;
allow a b : file read;
if p { allow a b : file { read write }; } else { allow a b : file transition; }
if q { allow a b : file { write transition }; } else { allow a b : file write; }
neverallow b c : file execute;
dontaudit a b : file execute;
allow a b : file { read write };
allow { a b } c : file execute;
allow b self : file execute;
if p { allow b a : file read; allow b a : file { read write }; }`)
	const A, B, C = "u:r1:a:s0", "u:object_r:b:s0", "u:object_r:c:s0"
	for _, x := range []struct {
		p, q            bool
		s, t            string
		perm, why, rule int
	}{
		{false, false, A, B, 0, api.WhyGranted, 1},
		{true, true, A, B, 0, api.WhyGranted, 1},
		{true, false, A, B, 1, api.WhyGranted, 2},
		{false, true, A, B, 1, api.WhyGranted, 4},
		{false, false, A, B, 1, api.WhyGranted, 5},
		{true, true, A, B, 1, api.WhyGranted, 2},
		{false, false, A, B, 2, api.WhyGranted, 3},
		{true, true, A, B, 2, api.WhyGranted, 4},
		{true, false, A, B, 2, api.WhyBool, 3},
		{true, true, A, B, 3, api.WhyRule, -1},
		{true, true, A, C, 3, api.WhyGranted, 9},
		{false, false, B, B, 3, api.WhyGranted, 10},
		{false, false, B, C, 3, api.WhyGranted, 9},
		{false, false, B, C, 0, api.WhyRule, -1},
		{false, false, B, A, 0, api.WhyBool, 11},
		{false, false, B, A, 1, api.WhyBool, 12},
		{false, false, B, A, 2, api.WhyRule, -1},
		{true, false, B, A, 0, api.WhyGranted, 11},
		{true, false, B, A, 1, api.WhyGranted, 12},
		{true, true, C, C, 0, api.WhyRule, -1},
	} {
		a.state = []bool{x.p, x.q}
		a.explains(x.s, x.t, "file", x.perm, x.why, x.rule, -1)
	}
	a.state = nil
	a.explains(B, A, "file", 0, api.WhyBool, 11, -1)
	a.state = []bool{true}
	a.explains(B, A, "file", 0, api.WhyGranted, 11, -1)
}

// P20.3: the first constraint is the first of those that forbid the permission.
func TestWhyConstraints(t *testing.T) {
	a := ask(t, base+`
constrain process { fork send } u1 != u1;
validatetrans file u1 != u1;
constrain file read r1 == r2;
constrain file { write execute } l1 dom l2;
constrain file { read execute } t1 == t2;
allow a { a b } : file { read execute };
allow a { a b } : file { read write };
if p { allow b b : file *; }`)
	const A, B = "u:r1:a:s0", "u:r1:b:s1"
	for _, x := range []struct {
		s, t                        string
		perm, why, rule, constraint int
	}{
		{A, A, 0, api.WhyGranted, 0, -1},
		{A, A, 1, api.WhyGranted, 1, -1},
		{A, "u:r2:a:s0", 0, api.WhyConstraint, 0, 2},
		{A, "u:r2:a:s0", 3, api.WhyGranted, 0, -1},
		{A, B, 0, api.WhyConstraint, 0, 4},
		{A, B, 1, api.WhyConstraint, 1, 3},
		{A, B, 3, api.WhyConstraint, 0, 3},
		{"u:r1:a:s1", B, 3, api.WhyConstraint, 0, 4},
		{"u:r1:a:s1", B, 1, api.WhyGranted, 1, -1},
		{"u:r1:b:s0", B, 1, api.WhyBool, 2, -1}, // rules come ahead of constraints
		{B, A, 0, api.WhyRule, -1, -1},
	} {
		a.explains(x.s, x.t, "file", x.perm, x.why, x.rule, x.constraint)
	}
}

// P20.3: the change of the role comes last.
func TestWhyRole(t *testing.T) {
	a := ask(t, base+`
constrain process transition l1 dom l2;
allow a b : { process file thread } *;
if p { allow a c : process *; }`)
	const s, o = "u:r2:a:s0", "u:r1:b:s0"
	for perm, why := range []int{api.WhyGranted, api.WhyRole, api.WhyRole, api.WhyGranted} {
		a.explains(s, o, "process", perm, why, 0, -1)
		a.explains("u:r1:a:s0", "u:r2:b:s0", "process", perm, api.WhyGranted, 0, -1)
		a.explains(s, o, "file", perm, api.WhyGranted, 1, -1)
		a.explains(s, o, "thread", perm%2, api.WhyGranted, 2, -1)
		a.explains(s, "u:r1:c:s0", "process", perm, api.WhyBool, 3, -1)
		a.explains("u:r2:b:s0", o, "process", perm, api.WhyRule, -1, -1)
	}
	a.explains(s, "u:r1:b:s1", "process", 1, api.WhyConstraint, 0, 0)
	a.explains(s, "u:r1:b:s1", "process", 2, api.WhyRole, 0, -1)
	a.explains("u:object_r:a:s0", o, "process", 1, api.WhyRole, 0, -1)
	a.explains(s, "u:object_r:b:s0", "process", 2, api.WhyRole, 0, -1)
	a.explains("u:object_r:a:s0", "u:object_r:b:s0", "process", 2, api.WhyGranted, 0, -1)
}
