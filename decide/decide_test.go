package decide_test

import (
	"math"
	"testing"

	"accesscontrol/api"
	"accesscontrol/decide"
)

const (
	initial  = "root:system:init_t:s0"
	user     = "root:system:user_t:s0"
	fileText = "root:object_r:file_t:s0"
)

// P20.1, P20.3: the examples of the chapter.
func TestExamples(t *testing.T) {
	a := ask(t, small, false)
	a.decides(initial, fileText, "file", api.Decision{Allowed: 17, AuditDeny: 255})
	a.explains(user, fileText, "file", 0, api.WhyBool, 4, -1)
	a.explains(initial, fileText, "file", 1, api.WhyRule, -1, -1)
	a.allows(user, fileText, "file", 0)
	a.allows(initial, user, "process", 2)
	a.allows(initial, initial, "process", 9)
	a.allows(user, initial, "process", 0)
	a.state = []bool{true}
	a.explains(user, fileText, "file", 0, api.WhyGranted, 4, -1)
	a.allows(user, fileText, "file", 1)
}

// P20.1: which rules match: the class, the types, and self.
func TestMatches(t *testing.T) {
	a := ask(t, base+`
allow a b : file read;
allow { a b } c : file write;
allow b { a self } : file transition;
allow c self : file execute;
allow a a : process fork;
neverallow a b : process send;`)
	const A, B, C = "u:r1:a:s0", "u:r1:b:s0", "u:r1:c:s0"
	const read, write, third, execute = 1, 2, 4, 8
	for _, x := range []struct {
		s, t string
		want uint32
	}{
		{A, A, 0}, {A, B, read}, {A, C, write}, {B, A, third}, {B, B, third}, {B, C, write}, {C, A, 0}, {C, B, 0}, {C, C, execute},
		{"v:object_r:a:s0", "u:r2:b:s1", read}, // neither the user, the role nor the range matters
		{"u:r2:b:s0-s1", "v:object_r:b:s0", third},
	} {
		a.allows(x.s, x.t, "file", x.want)
	}
	a.allows(A, A, "process", 1)
	a.allows(A, B, "process", 0)
	a.allows(A, B, "thread", 0)
}

// P20.1: which rules are active, in states of any length.
func TestActiveRules(t *testing.T) {
	a := ask(t, base+`
allow a b : file read;
if p { allow a b : file write; } else { allow a b : file transition; }
if p && q { auditallow a b : file read; dontaudit a b : file { read write }; } else { auditallow a b : file write; dontaudit a b : file transition; }`)
	for _, x := range []struct {
		state []bool
		want  api.Decision
	}{
		{[]bool{false, false}, api.Decision{Allowed: 5, AuditAllow: 2, AuditDeny: 11}},
		{[]bool{true, false}, api.Decision{Allowed: 3, AuditAllow: 2, AuditDeny: 11}},
		{[]bool{false, true}, api.Decision{Allowed: 5, AuditAllow: 2, AuditDeny: 11}},
		{[]bool{true, true}, api.Decision{Allowed: 3, AuditAllow: 1, AuditDeny: 12}},
		{nil, api.Decision{Allowed: 5, AuditAllow: 2, AuditDeny: 11}}, // the value of q in the policy plays no part
		{[]bool{true}, api.Decision{Allowed: 3, AuditAllow: 2, AuditDeny: 11}},
		{[]bool{true, true, false, true}, api.Decision{Allowed: 3, AuditAllow: 1, AuditDeny: 12}},
	} {
		a.state = x.state
		a.decides("u:r1:a:s0", "u:object_r:b:s0", "file", x.want)
	}
}

// P20.1: what constraints forbid.
func TestConstraints(t *testing.T) {
	a := ask(t, base+`
allow { a b } { a b } : file { read write execute };
allow a a : process { fork send };
validatetrans file u1 != u1;
constrain file read r1 == r2;
constrain file { write execute } l1 dom l2;
constrain file execute t1 in a;
constrain process send u1 == u2;`)
	for _, x := range []struct {
		s, t, class string
		want        uint32
	}{
		{"u:r1:a:s0", "u:r1:b:s0", "file", 11},
		{"u:r1:a:s0", "u:object_r:b:s0", "file", 10},
		{"u:r1:b:s0", "u:r1:b:s0", "file", 3},
		{"u:r1:a:s0", "u:r1:b:s1", "file", 1},
		{"u:r1:a:s1", "u:r2:b:s0", "file", 10},
		{"u:r1:b:s0", "u:r2:b:s1", "file", 0},
		{"u:r1:a:s0", "u:r1:a:s1", "process", 9},
		{"u:r1:a:s0", "v:r1:a:s0", "process", 1},
	} {
		a.allows(x.s, x.t, x.class, x.want)
	}
}

// P20.1: the change of the role.
func TestChangeOfRole(t *testing.T) {
	a := ask(t, base+"allow { a b c } { a b c } : { process file thread } *;")
	for _, x := range []struct {
		s, t string
		free bool
	}{
		{"u:r1:a:s0", "u:r1:b:s0", true},
		{"u:r1:a:s0", "u:r2:b:s0", true},
		{"u:r2:a:s0", "u:r3:a:s0", true},
		{"u:r2:a:s0", "u:r1:b:s0", false},
		{"u:r1:a:s0", "u:r3:a:s0", false},
		{"u:r3:a:s0", "u:r1:a:s0", false},
		{"u:r3:a:s0", "u:r3:a:s0", true},
		{"u:r1:a:s0", "u:object_r:a:s0", false},
		{"u:object_r:a:s0", "u:r1:a:s0", false},
		{"u:object_r:a:s0", "v:object_r:b:s1", true},
	} {
		want := uint32(9)
		if x.free {
			want = 15
		}
		a.allows(x.s, x.t, "process", want)
		a.allows(x.s, x.t, "file", 15)
		a.allows(x.s, x.t, "thread", 3)
	}
}

// P20.1: a class process without one of the permissions, or with others at their numbers.
func TestChangeOfRoleWithOtherPermissions(t *testing.T) {
	for perms, want := range map[string]uint32{
		"dyntransition fork": 2, "fork send": 3, "fork transition": 1, "transition": 0, "Transition transition dyntransitio": 5,
	} {
		a := ask(t, "class process { "+perms+" }; sensitivity s0; type a; role r types a; role q types a; user u roles { r q } level s0 range s0; allow a a : process *;")
		a.allows("u:r:a:s0", "u:q:a:s0", "process", want)
	}
}

// P20.1: audited grants and denials are not limited by what is allowed.
func TestAudits(t *testing.T) {
	a := ask(t, base+`
permissive b;
auditallow a b : process { fork transition };
auditallow a { b c } : process send;
dontaudit a b : process { fork dyntransition };
dontaudit b self : process send;
neverallow a c : process { fork transition };
constrain process { fork transition } u1 != u1;`)
	a.decides("u:r2:a:s0", "u:r1:b:s0", "process", api.Decision{AuditAllow: 11, AuditDeny: 10})
	a.decides("u:r2:a:s0", "u:r1:c:s0", "process", api.Decision{AuditAllow: 8, AuditDeny: 15})
	a.decides("u:r2:b:s0", "u:r1:b:s0", "process", api.Decision{AuditDeny: 7, Permissive: true})
	a.decides("u:r2:b:s0", "u:r1:a:s0", "process", api.Decision{AuditDeny: 15, Permissive: true})
	a.decides("u:r2:a:s0", "u:r1:b:s0", "thread", api.Decision{AuditDeny: 3})
}

// P20.1: a class with as many permissions as there may be.
func TestManyPermissions(t *testing.T) {
	many := ""
	for n := range 32 {
		many += " p" + string(rune('A'+n%26)) + string(rune('0'+n/26))
	}
	a := ask(t, "class k {"+many+" }; class one { p }; sensitivity s0; type a; type b; role r types a; user u roles { r } level s0 range s0; allow a self : k *; auditallow a b : k pF1; dontaudit b b : k { * - pA0 }; dontaudit b a : k *;")
	const A, B = "u:object_r:a:s0", "u:object_r:b:s0"
	a.decides(A, A, "k", api.Decision{Allowed: math.MaxUint32, AuditDeny: math.MaxUint32})
	a.decides(A, B, "k", api.Decision{AuditAllow: 1 << 31, AuditDeny: math.MaxUint32})
	a.decides(B, B, "k", api.Decision{AuditDeny: 1})
	a.decides(B, A, "k", api.Decision{})
	a.decides(A, A, "one", api.Decision{AuditDeny: 1})
	a.explains(A, A, "k", 31, api.WhyGranted, 0, -1)
	a.explains(A, B, "k", 31, api.WhyRule, -1, -1)
	if c := a.context(A); !decide.Allowed(a.p, nil, c, c, 0, 31) || decide.Allowed(a.p, nil, c, c, 0, 32) {
		t.Errorf("the last permission")
	}
}

// P20.1, P20.2, P20.3: classes, permissions and contexts that do not exist.
func TestInvalid(t *testing.T) {
	a := ask(t, base+"permissive a; allow a a : { process file thread } *; auditallow a a : { process file thread } *;")
	ok := a.context("u:r1:a:s0")
	bad := []api.Context{
		{User: 2, Role: 1}, {User: -1}, {Role: 4}, {Role: -1}, {Type: 3}, {Type: -1}, {Role: 3, Type: 1}, {User: 1, Role: 2}, {User: math.MinInt, Role: math.MaxInt},
		{Range: api.Range{Low: api.Level{Sens: 1}}}, {Range: api.Range{High: api.Level{Cats: 1}}}, {User: 1, Role: 1, Range: api.Range{High: api.Level{Sens: 1}}},
	}
	check := func(s, t2 api.Context, class, perm, why int) {
		t.Helper()
		want := api.Reason{Why: why, Rule: -1, Constraint: -1}
		if got := decide.Why(a.p, nil, s, t2, class, perm); got != want {
			t.Errorf("Why(%v, %v, %d, %d): got %v, want %v", s, t2, class, perm, got, want)
		}
		if decide.Allowed(a.p, nil, s, t2, class, perm) {
			t.Errorf("Allowed(%v, %v, %d, %d)", s, t2, class, perm)
		}
		zero := decide.Access(a.p, nil, s, t2, class) == api.Decision{}
		if want := why == api.WhyContext || class < 0 || class > 2; zero != want {
			t.Errorf("Access(%v, %v, %d) is zero: %v", s, t2, class, zero)
		}
	}
	for _, c := range bad {
		for _, n := range [][2]int{{0, 0}, {1, 3}, {2, 1}} {
			check(c, ok, n[0], n[1], api.WhyContext)
			check(ok, c, n[0], n[1], api.WhyContext)
			check(c, c, n[0], n[1], api.WhyContext)
		}
	}
	for _, n := range [][2]int{{3, 0}, {-1, 0}, {math.MaxInt, 0}, {math.MinInt, 0}} {
		check(ok, ok, n[0], n[1], api.WhyClass)
		check(bad[0], ok, n[0], n[1], api.WhyClass)
	}
	for _, n := range [][2]int{{0, 4}, {0, -1}, {1, 4}, {2, 2}, {2, 31}, {2, 32}, {2, 64}, {0, math.MaxInt}, {0, math.MinInt}} {
		check(ok, ok, n[0], n[1], api.WhyClass)
	}
	for _, c := range bad {
		if got := decide.Why(a.p, nil, c, ok, 2, 2); got != (api.Reason{Why: api.WhyClass, Rule: -1, Constraint: -1}) {
			t.Errorf("got %v", got)
		}
	}
}

// P20.2: Allowed reports each permission of the decision.
func TestAllowed(t *testing.T) {
	a := ask(t, small)
	for _, s := range []string{initial, user} {
		for _, o := range []string{initial, user, fileText} {
			for class := range 3 {
				allowed := decide.Access(a.p, a.state, a.context(s), a.context(o), class).Allowed
				for perm := -3; perm < 40; perm++ {
					want := perm >= 0 && allowed>>max(perm, 0)&1 == 1
					if got := decide.Allowed(a.p, a.state, a.context(s), a.context(o), class, perm); got != want {
						t.Errorf("Allowed(%q, %q, %d, %d): got %v", s, o, class, perm, got)
					}
				}
			}
		}
	}
}

// P20.4: Class and Perm.
func TestClassAndPerm(t *testing.T) {
	p := policy(t, small)
	for name, want := range map[string]int{"process": 0, "file": 1, "dir": 2, "": -1, "link": -1, "File": -1, "file ": -1, "init_t": -1, "read": -1} {
		n, ok := decide.Class(p, name)
		if n != max(want, 0) || ok != (want >= 0) {
			t.Errorf("Class(%q): got %d, %v", name, n, ok)
		}
	}
	for _, x := range []struct {
		class int
		name  string
		want  int
	}{
		{0, "fork", 0}, {0, "transition", 1}, {0, "dyntransition", 2}, {0, "send", 3}, {0, "read", -1}, {0, "", -1}, {0, "Fork", -1}, {0, "process", -1},
		{1, "read", 0}, {1, "relabelto", 7}, {1, "add", -1}, {2, "add", 4}, {2, "execute", -1},
		{3, "read", -1}, {-1, "read", -1}, {math.MaxInt, "read", -1}, {math.MinInt, "fork", -1},
	} {
		n, ok := decide.Perm(p, x.class, x.name)
		if n != max(x.want, 0) || ok != (x.want >= 0) {
			t.Errorf("Perm(%d, %q): got %d, %v", x.class, x.name, n, ok)
		}
	}
}

// P20.4: May.
func TestMay(t *testing.T) {
	a := ask(t, small)
	s, o := a.context(initial), a.context(fileText)
	for _, x := range []struct {
		class, perm string
		want        bool
	}{
		{"file", "read", true}, {"file", "execute", true}, {"file", "write", false}, {"dir", "read", false}, {"process", "fork", false}, {"process", "read", false},
		{"file", "", false}, {"file", "add", false}, {"", "read", false}, {"link", "read", false}, {"File", "read", false}, {"file", "Read", false}, {"", "", false},
	} {
		if got := decide.May(a.p, nil, s, o, x.class, x.perm); got != x.want {
			t.Errorf("May(%q, %q): got %v", x.class, x.perm, got)
		}
	}
	s = a.context(user)
	for state, want := range map[bool]bool{false: false, true: true} {
		if got := decide.May(a.p, []bool{state}, s, o, "file", "read"); got != want {
			t.Errorf("with share %v: got %v", state, got)
		}
	}
	for _, x := range [][2]string{{"nothing", "fork"}, {"", "send"}, {"process", "nothing"}, {"process", ""}, {"nothing", "nothing"}} {
		if decide.May(a.p, nil, s, s, x[0], x[1]) {
			t.Errorf("May(%q, %q) is not the same as for the first class, or permission", x[0], x[1])
		}
	}
	if !decide.May(a.p, nil, s, s, "process", "send") || decide.May(a.p, nil, api.Context{Type: -1}, s, "process", "send") || decide.May(a.p, nil, s, api.Context{User: 9}, "process", "send") {
		t.Errorf("a process may send to itself")
	}
}

// P20.5: Role.
func TestRole(t *testing.T) {
	p := policy(t, base)
	may := map[[2]int]bool{{0, 0}: true, {1, 1}: true, {2, 2}: true, {3, 3}: true, {1, 2}: true, {2, 3}: true}
	for from := -2; from < 7; from++ {
		for to := -2; to < 7; to++ {
			if got := decide.Role(p, from, to); got != may[[2]int{from, to}] {
				t.Errorf("Role(%d, %d): got %v", from, to, got)
			}
		}
	}
	for _, n := range []int{math.MinInt, math.MaxInt, 256} {
		if decide.Role(p, n, n) || decide.Role(p, 1, n) || decide.Role(p, n, 1) {
			t.Errorf("Role of %d", n)
		}
	}
	p.Roles[1].Next = api.Set{1 << 40} // not valid: a role that does not exist
	if decide.Role(p, 1, 40) || decide.Role(api.Policy{}, 0, 0) {
		t.Errorf("roles that do not exist")
	}
}
