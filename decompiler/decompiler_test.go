package decompiler_test

import (
	"math"
	"strconv"
	"strings"
	"testing"

	"accesscontrol/api"
	"accesscontrol/compiler"
	"accesscontrol/decompiler"
	"accesscontrol/printer"
	"accesscontrol/syntax"
)

// symbolsOfLarge are the declarations of large, in the order of the numbers.
const symbolsOfLarge = `class file { read write execute };
class dir { add };
attribute first;
attribute second;
attribute none;
type a_t alias { x_t y_t }, first, second;
type b_t, second;
type c_t;
sensitivity s0;
sensitivity s1;
category c0;
category c1;
category c2;
category c3;
bool p true;
bool q false;
role user_r types { a_t b_t };
role admin_r types a_t;
role none_r;
user low roles { user_r } level s0 range s0;
user high roles { user_r admin_r none_r } level s0:c1 range s0-s1:c0.c3;
`

// restOfLarge are the statements of large behind the symbols.
const restOfLarge = `roleallow user_r { admin_r none_r };
roleallow admin_r admin_r;
if !p && (q || p) {
  allow { a_t - a_t } a_t : file read;
}
if q {
  allow { a_t - a_t } a_t : file read;
}
if !p && (q || p) {
  allow a_t b_t : file read;
}
if q {
  dontaudit b_t { a_t self } : dir add;
}
if q {
  allow { a_t - a_t } a_t : file read;
} else {
  auditallow a_t self : file { read execute };
}
neverallow { a_t b_t } { a_t b_t } : dir add;
if !p && (q || p) {
  allow { a_t - a_t } a_t : file read;
} else {
  type_change { a_t b_t } c_t : file a_t;
}
type_transition a_t b_t : file c_t "log.txt";
type_member a_t b_t : dir c_t;
role_transition user_r { a_t c_t } : file admin_r;
range_transition a_t b_t : file s0:c0,c2-s1:c0.c3;
range_transition b_t a_t : dir s1;
constrain file { read write } u1 == u2 || !(t1 in { a_t b_t } && r2 in { object_r user_r });
constrain dir add l1 domby h2;
validatetrans dir (l1 == l2 || t3 in c_t) && u3 in high;
sid kernel high:user_r:a_t:s0:c1-s1:c0.c1;
filecon "/.*" any low:object_r:c_t:s1:c3;
filecon "/etc" socket high:admin_r:a_t:s0;
permissive { a_t c_t };
assert one noflow a_t c_t;
assert two separate a_t { b_t c_t };
`

// P26.1: the symbols of a policy.
func TestSymbols(t *testing.T) {
	l, code := decompiler.Symbols(linked(t, large))
	if code != api.OK {
		t.Fatal(code)
	}
	checkStatements(t, l, symbolsOfLarge)
	if l, code := decompiler.Symbols(linked(t, "")); len(l) != 0 || code != api.OK {
		t.Errorf("got %v, %v", l, code)
	}
	// Attributes that are declared behind their types stand in front of them.
	l, _ = decompiler.Symbols(linked(t, "type b, y, x; type a; typeattribute a x; attribute x; attribute y; class c { p };"))
	checkStatements(t, l, "class c { p };\nattribute x;\nattribute y;\ntype b, x, y;\ntype a, x;\n")
}

// P26.1: a user without roles.
func TestUserWithoutRoles(t *testing.T) {
	p := linked(t, large)
	p.Users = append(p.Users, api.User{Name: "new"})
	checkValid(t, p)
	if l, code := decompiler.Symbols(p); len(l) != 0 || code != api.ErrArg {
		t.Errorf("got %v, %v", l, code)
	}
	checkRefused(t, p, "m", api.ErrArg)
}

// P26.1, P26.2: all statements, in their order.
func TestModule(t *testing.T) {
	p := linked(t, large)
	m, code := decompiler.Module(p, "again_1")
	if m.Name != "again_1" || m.Version != 1 || code != api.OK {
		t.Fatalf("got %s, %d, %v", m.Name, m.Version, code)
	}
	checkStatements(t, m.Stmts, symbolsOfLarge+restOfLarge)
	checkBack(t, p, m)
	src, code := decompiler.Source(p, "again_1")
	if want := "module again_1 1;\n" + symbolsOfLarge + restOfLarge; src != want || code != api.OK {
		t.Errorf("got %s, %v, want %s", src, code, want)
	}
	if !checkSource(t, p, m, src) {
		t.Error("the source is not compiled")
	}
	if m, code := decompiler.Module(linked(t, ""), "m"); len(m.Stmts) != 0 || m.Name != "m" || code != api.OK {
		t.Errorf("got %v, %v", m, code)
	}
	if src, code := decompiler.Source(linked(t, ""), "m"); src != "module m 1;\n" || code != api.OK {
		t.Errorf("got %q, %v", src, code)
	}
}

// P26.1, P26.2: the example of the chapter.
func TestSmall(t *testing.T) {
	p := linked(t, small)
	m, code := decompiler.Module(p, "small")
	if code != api.OK || syntax.Count(m) != 24 {
		t.Fatalf("got %d statements, %v", syntax.Count(m), code)
	}
	checkStatements(t, m.Stmts, `class process { fork transition dyntransition send };
class file { read write create unlink execute entrypoint relabelfrom relabelto };
class dir { read write create unlink add remove relabelfrom relabelto };
attribute domain;
type init_t, domain;
type user_t, domain;
type file_t;
type shell_t;
sensitivity s0;
bool share false;
role system types { init_t user_t };
user root roles { system } level s0 range s0;
if share {
  allow { init_t - init_t } init_t : process fork;
}
allow { init_t user_t } self : process { fork send };
allow init_t { file_t shell_t } : file { read execute };
allow init_t user_t : process transition;
allow user_t shell_t : file entrypoint;
if share {
  allow user_t file_t : file read;
}
type_transition init_t shell_t : process user_t;
sid kernel root:system:init_t:s0;
sid root root:object_r:file_t:s0;
sid unlabeled root:object_r:file_t:s0;
`)
	src, code := decompiler.Source(p, "small")
	if code != api.OK || !checkSource(t, p, m, src) {
		t.Errorf("got %q, %v", src, code)
	}
}

// P26.1: names that are no identifiers come ahead of the other errors.
func TestNames(t *testing.T) {
	p := linked(t, large)
	without := changed(linked(t, large), func(p *api.Policy) { p.Users[0].Roles = api.Set{} })
	for _, name := range []string{"", "allow", "module", "if", "1a", "a b", "a-b", "a\n", "ä", "\"", strings.Repeat("a", api.MaxName+1)} {
		checkRefused(t, p, name, api.ErrName)
		checkRefused(t, without, name, api.ErrName)
		checkRefused(t, api.Policy{}, name, api.ErrName)
	}
	for _, name := range []string{"a", "_", "object_r", "dom", "u1", "link", strings.Repeat("Z", api.MaxName)} {
		if m, code := decompiler.Module(p, name); m.Name != name || code != api.OK {
			t.Errorf("%q: got %q, %v", name, m.Name, code)
		}
		if src, code := decompiler.Source(p, name); !strings.HasPrefix(src, "module "+name+" 1;\n") || code != api.OK {
			t.Errorf("%q: got %q, %v", name, src, code)
		}
	}
}

// equalConditions returns the policy of a source with a condition that it has twice.
func equalConditions(t *testing.T, src string) api.Policy {
	t.Helper()
	p := linked(t, src)
	p.Conds = append(p.Conds, p.Conds[len(p.Conds)-1])
	checkValid(t, p)
	return p
}

// P26.1: conditions of equal structure; those of the same meaning are not equal.
func TestEqualConditions(t *testing.T) {
	checkRefused(t, equalConditions(t, large), "m", api.ErrTwice)
	checkRefused(t, changed(linked(t, large), func(p *api.Policy) { p.Conds = append(p.Conds, p.Conds[0]) }), "m", api.ErrTwice)
	const rules = "class c { r }; type a; bool p true; bool q true; bool r true; "
	for _, x := range []string{"p && q) {", "q && p) {", "p || q) {", "!!p) {", "p == p) {", "p != q) {", "p ^ q) {", "p && q && r) {", "p && (q && r)) {", "p && (r && q)) {"} {
		for _, y := range []string{"(p && q) {", "(p) {", "(!p) {", "(!!!p) {", "(q != p) {", "((p && q) && q) {"} {
			p := linked(t, rules+"if ("+x+" allow a a : c r; } if "+y+" allow a a : c r; }")
			if len(p.Conds) == 1 {
				continue // linking has made one of them
			}
			m, code := decompiler.Module(p, "m")
			if code != api.OK {
				t.Errorf("%s and %s: got %v", x, y, code)
				continue
			}
			checkBack(t, p, m)
		}
	}
}

// P26.1: a condition, but no type or no class.
func TestConditionsAlone(t *testing.T) {
	without := func(types, classes int) api.Policy {
		p := linked(t, "class c { r s }; type a; bool p true; if p { allow { a - a } a : c r; }")
		p.Types, p.Classes = p.Types[:types], p.Classes[:classes]
		checkValid(t, p)
		return p
	}
	if m, code := decompiler.Module(without(1, 1), "m"); code != api.OK || len(m.Stmts) != 4 {
		t.Errorf("got %v, %v", m, code)
	}
	checkRefused(t, without(0, 1), "m", api.ErrArg)
	checkRefused(t, without(1, 0), "m", api.ErrArg)
	checkRefused(t, without(0, 0), "m", api.ErrArg)
	// Booleans without conditions need neither.
	p := without(0, 0)
	p.Conds = nil
	if m, code := decompiler.Module(p, "m"); code != api.OK || len(m.Stmts) != 1 {
		t.Errorf("got %v, %v", m, code)
	}
}

// filled returns a policy whose module has so many statements, some of them in blocks.
func filled(t *testing.T, count int) api.Policy {
	t.Helper()
	p := linked(t, "class c { r }; type a; bool p true; if p { allow a a : c r; type_change a a : c a; } else { dontaudit a a : c r; type_member a a : c a; }")
	const begun = 3 + 2 + 2 + 3 + 2 + 3 // declarations, the condition, rules, transitions
	for range count - begun {
		p.Rules = append(p.Rules, p.Rules[0])
		p.Rules[len(p.Rules)-1].Cond = 0
	}
	checkValid(t, p)
	return p
}

// P26.1: MaxStmts statements, with those in blocks.
func TestManyStatements(t *testing.T) {
	p := filled(t, api.MaxStmts)
	m, code := decompiler.Module(p, "m")
	if code != api.OK || syntax.Count(m) != api.MaxStmts {
		t.Fatalf("got %d statements, %v", syntax.Count(m), code)
	}
	checkBack(t, p, m)
	src, code := decompiler.Source(p, "m")
	if code != api.OK || !checkSource(t, p, m, src) {
		t.Errorf("got %v", code)
	}
	checkRefused(t, filled(t, api.MaxStmts+1), "m", api.ErrLong)
	checkRefused(t, filled(t, api.MaxRules), "m", api.ErrLong)
}

// P26.1: which changes of a policy add how many statements, so that there are too many.
func TestAddedStatements(t *testing.T) {
	a := api.Set{1}
	compare := api.Expr{Op: api.ExprCompare, B: api.AttrsOfContext}
	for _, x := range []struct {
		added  int
		change func(*api.Policy)
	}{
		{1, func(p *api.Policy) { p.Cats = append(p.Cats, "new") }},
		{1, func(p *api.Policy) { p.Attrs = append(p.Attrs, api.Attr{Name: "new"}) }},
		{0, func(p *api.Policy) { p.Types[0].Aliases = []string{"new"} }},
		{1, func(p *api.Policy) { p.Roles = append(p.Roles, api.Role{Name: "new"}) }},
		{2, func(p *api.Policy) { p.Roles = append(p.Roles, api.Role{Name: "new", Next: api.Set{2}}) }},
		{2, func(p *api.Policy) { p.Conds = append(p.Conds, api.Expr{Op: api.ExprNot, Kids: p.Conds}) }},
		{1, func(p *api.Policy) { p.Rules = append(p.Rules, api.Rule{Kind: 4, Source: a, Target: a, Perms: 1}) }},
		{1, func(p *api.Policy) { p.Rules[2].Cond = 1 }},
		{2, func(p *api.Policy) { p.Rules[2].Cond = -1 }},
		{1, func(p *api.Policy) { p.Trans = append(p.Trans, api.Trans{Kind: 1, Source: a, Target: a}) }},
		{1, func(p *api.Policy) { p.Trans[0].Cond = -1 }},
		{-1, func(p *api.Policy) { p.Trans[0].Cond = 0 }},
		{1, func(p *api.Policy) { p.Types[0].Permissive = true }},
		{1, func(p *api.Policy) { p.Constraints = []api.Constraint{{Perms: 1, Expr: compare}} }},
		{1, func(p *api.Policy) { p.Constraints = []api.Constraint{{Validate: true, Expr: compare}} }},
		{1, func(p *api.Policy) { p.Asserts = []api.Assert{{Name: "new", Kind: 1, Source: a, Target: a}} }},
		{5, func(p *api.Policy) {
			p.Sens, p.Users, p.Ranges = []string{"s"}, []api.User{{Name: "u", Roles: api.Set{2}}}, []api.RangeTrans{{Source: a, Target: a}}
			p.Roles, p.RoleTrans = append(p.Roles, api.Role{Name: "r"}), []api.RoleTrans{{Roles: api.Set{2}, Types: a, Result: 1}}
		}},
		{4, func(p *api.Policy) {
			p.Sens, p.Roles, p.Users, p.Sids = []string{"s"}, append(p.Roles, api.Role{Name: "r"}), []api.User{{Name: "u", Roles: api.Set{2}}}, []api.InitialSid{{Name: "i"}}
		}},
		{4, func(p *api.Policy) {
			p.Sens, p.Roles, p.Users, p.Files = []string{"s"}, append(p.Roles, api.Role{Name: "r"}), []api.User{{Name: "u", Roles: api.Set{2}}}, []api.FileRule{{Pattern: "/"}}
		}},
	} {
		p := changed(filled(t, api.MaxStmts-x.added), x.change)
		checkValid(t, p)
		m, code := decompiler.Module(p, "m")
		if code != api.OK || syntax.Count(m) != api.MaxStmts {
			t.Errorf("%d more: got %d statements, %v", x.added, syntax.Count(m), code)
		}
		checkBack(t, p, m)
		checkRefused(t, changed(filled(t, api.MaxStmts-x.added+1), x.change), "m", api.ErrLong)
	}
}

// P26.1: the errors of Module, in their order.
func TestOrderOfErrors(t *testing.T) {
	long := filled(t, 2*api.MaxStmts)
	twice := changed(long, func(p *api.Policy) { p.Conds = append(p.Conds[:1:1], p.Conds[0]) })
	users := changed(twice, func(p *api.Policy) { p.Sens, p.Users = []string{"s"}, []api.User{{Name: "u"}} })
	for _, p := range []api.Policy{long, twice, users} {
		checkValid(t, p)
		checkRefused(t, p, "if", api.ErrName)
	}
	checkRefused(t, users, "m", api.ErrArg)
	checkRefused(t, twice, "m", api.ErrTwice)
	checkRefused(t, long, "m", api.ErrLong)
	// Equal conditions come ahead of a missing class, and this ahead of too many statements.
	p := linked(t, "type a; bool p true; sensitivity s; role r; user u roles { r } level s range s; if p { allow { a - a } a : c r; } class c { r };")
	p.Classes = nil
	for n := range api.MaxSids {
		p.Sids = append(p.Sids, api.InitialSid{Name: "i" + strconv.Itoa(n)})
	}
	checkValid(t, p)
	checkRefused(t, p, "m", api.ErrArg)
	p.Conds = append(p.Conds, p.Conds[0])
	checkRefused(t, p, "m", api.ErrTwice)
	p.Conds = nil
	checkRefused(t, p, "m", api.ErrLong)
}

// P26.2: a source of more than MaxSource bytes is the error of the printer.
func TestLongSource(t *testing.T) {
	p := api.Policy{Roles: []api.Role{{Name: api.ObjectRole}}, Classes: []api.Class{{Name: "c", Perms: []string{"r"}}}}
	every := api.Set{}
	for n := range api.MaxTypes {
		name := "t" + strconv.Itoa(n)
		p.Types = append(p.Types, api.Type{Name: name + strings.Repeat("_", api.MaxName-len(name))})
		every[n/64] |= 1 << (n % 64)
	}
	for n := 0; ; n++ {
		checkValid(t, p)
		m, code := decompiler.Module(p, "m")
		if code != api.OK {
			t.Fatalf("%d rules: got %v", n, code)
		}
		want, wanted := printer.Module(m)
		src, code := decompiler.Source(p, "m")
		if src != want || code != wanted {
			t.Fatalf("%d rules: got %d bytes, %v, want %d bytes, %v", n, len(src), code, len(want), wanted)
		}
		if code == api.ErrLong {
			checkBack(t, p, m)
			if n < 2 || src != "" {
				t.Errorf("%d rules: got %d bytes", n, len(src))
			}
			return
		}
		p.Rules = append(p.Rules, api.Rule{Kind: api.RuleAllow, Source: every, Target: api.Set{1}, Perms: 1})
	}
}

// P26.3: the statement of a rule has no condition.
func TestRule(t *testing.T) {
	p := linked(t, large)
	for n, want := range []string{
		"allow a_t b_t : file read;\n",
		"dontaudit b_t { a_t self } : dir add;\n",
		"auditallow a_t self : file { read execute };\n",
		"neverallow { a_t b_t } { a_t b_t } : dir add;\n",
	} {
		s, code := decompiler.Rule(p, n)
		if code != api.OK {
			t.Fatalf("rule %d: got %v", n, code)
		}
		checkStatements(t, []api.Stmt{s}, want)
	}
	for _, n := range []int{-1, len(p.Rules), math.MinInt, math.MaxInt} {
		if s, code := decompiler.Rule(p, n); !same(s, api.Stmt{}) || code != api.ErrNone {
			t.Errorf("rule %d: got %v, %v", n, s, code)
		}
	}
	if s, code := decompiler.Rule(linked(t, ""), 0); !same(s, api.Stmt{}) || code != api.ErrNone {
		t.Errorf("got %v, %v", s, code)
	}
}

// P26.3: contexts, which need not be valid, with the names of types alone.
func TestContext(t *testing.T) {
	p := linked(t, large)
	low, high := api.Level{}, api.Level{Sens: 1, Cats: 13}
	for _, x := range []struct {
		c    api.Context
		want string
	}{
		{api.Context{}, "low:object_r:a_t:s0"},
		{api.Context{User: 1, Role: 3, Type: 2, Range: api.Range{Low: low, High: high}}, "high:none_r:c_t:s0-s1:c0,c2.c3"},
		{api.Context{Role: 1, Type: 1, Range: api.Range{Low: high, High: high}}, "low:user_r:b_t:s1:c0,c2.c3"},
		{api.Context{Range: api.Range{Low: api.Level{Cats: 15}, High: api.Level{Cats: 15}}}, "low:object_r:a_t:s0:c0.c3"},
	} {
		text, code := decompiler.Context(p, x.c)
		if got, _ := printer.Context(text); got != x.want || code != api.OK {
			t.Errorf("%v: got %q, %v, want %q", x.c, got, code, x.want)
		}
	}
	wrong := api.Range{Low: high, High: low}
	for _, x := range []struct {
		c    api.Context
		want api.Errno
	}{
		{api.Context{User: 2}, api.ErrNone},
		{api.Context{User: -1}, api.ErrNone},
		{api.Context{Role: 4}, api.ErrNone},
		{api.Context{Role: -1}, api.ErrNone},
		{api.Context{Type: 3}, api.ErrNone},
		{api.Context{Type: -1}, api.ErrNone},
		{api.Context{Type: math.MaxInt}, api.ErrNone},
		{api.Context{User: math.MinInt}, api.ErrNone},
		{api.Context{User: 2, Range: wrong}, api.ErrNone},
		{api.Context{Role: 4, Range: wrong}, api.ErrNone},
		{api.Context{Type: 3, Range: wrong}, api.ErrNone},
		{api.Context{Range: wrong}, api.ErrLevel},
		{api.Context{Range: api.Range{High: api.Level{Sens: 2}}}, api.ErrLevel},
		{api.Context{Range: api.Range{Low: api.Level{Sens: -1}}}, api.ErrLevel},
		{api.Context{Range: api.Range{High: api.Level{Cats: 16}}}, api.ErrLevel},
	} {
		if text, code := decompiler.Context(p, x.c); !same(text, api.ContextText{}) || code != x.want {
			t.Errorf("%v: got %v, %v, want %v", x.c, text, code, x.want)
		}
	}
}

// P26.4: policies that are linked, but not compiled, because of what they say.
func TestRefusedSources(t *testing.T) {
	for src, want := range map[string]api.Errno{
		"neverallow a_t c_t : file write; allow a_t c_t : file write;":          api.ErrNever,
		"type_transition a_t b_t : dir a_t; type_transition a_t b_t : dir b_t;": api.ErrConflict,
	} {
		p := linked(t, large+src)
		m, code := decompiler.Module(p, "m")
		if code != api.OK {
			t.Fatal(code)
		}
		checkBack(t, p, m)
		s, _ := decompiler.Source(p, "m")
		if _, n, f := compiler.Compile([]string{s}); n != -1 || f.Code != want {
			t.Errorf("%s: got %d, %v, want %v", src, n, f, want)
		}
	}
}

// P26.2, P26.4: words of the grammar that are not reserved are names.
func TestWords(t *testing.T) {
	p := linked(t, `class any { dom domby }; class link { u1 r2 }; attribute socket; type noflow alias { t1 }, socket; type u1; type incomp; bool regular true; bool dom false;
sensitivity l1; sensitivity h2; category separate; category any; role t3 types socket; user nodomain roles { t3 } level l1 range l1-h2:separate.any; user u2 roles { t3 } level l1 range l1;
if regular ^ dom { allow u1 incomp : link u1; } constrain any dom u1 in nodomain || t1 in { u1 incomp } && r2 in t3; constrain link u1 u1 == u2; validatetrans link l1 incomp h3;
filecon "any" any u2:t3:noflow:l1; sid dom nodomain:object_r:u1:l1-h2:any; assert noflow noflow u1 noflow; permissive incomp;`)
	m, code := decompiler.Module(p, "dom")
	if code != api.OK {
		t.Fatal(code)
	}
	checkBack(t, p, m)
	src, code := decompiler.Source(p, "dom")
	if code != api.OK || !checkSource(t, p, m, src) {
		t.Errorf("got %q, %v", src, code)
	}
}

// P1: policies that are not valid end without a panic.
func TestAnyPolicy(t *testing.T) {
	deep := api.Expr{Op: api.ExprName}
	for range 50000 {
		deep = api.Expr{Op: api.ExprNot, Kids: []api.Expr{deep}}
	}
	every := api.Set{1<<64 - 1, 1<<64 - 1, 1<<64 - 1, 1<<64 - 1}
	for i, spoil := range []func(*api.Policy){
		func(p *api.Policy) { *p = api.Policy{} },
		func(p *api.Policy) { p.Roles = nil },
		func(p *api.Policy) { p.Classes = nil },
		func(p *api.Policy) { p.Types = nil },
		func(p *api.Policy) { p.Sens, p.Cats = nil, nil },
		func(p *api.Policy) { p.Bools = nil },
		func(p *api.Policy) { p.Conds = nil },
		func(p *api.Policy) { p.Classes[0].Perms = nil },
		func(p *api.Policy) { p.Types, p.Attrs[0].Types = make([]api.Type, 1000), every },
		func(p *api.Policy) { p.Roles, p.Users[0].Roles = make([]api.Role, 1000), every },
		func(p *api.Policy) { p.Conds[0], p.Constraints[0].Expr = deep, deep },
		func(p *api.Policy) { p.Conds = make([]api.Expr, 100000) },
		func(p *api.Policy) { p.Rules = make([]api.Rule, 1000000) },
		func(p *api.Policy) { p.Rules[0].Class, p.Rules[1].Class = -1, math.MaxInt },
		func(p *api.Policy) { p.Rules[0].Cond, p.Rules[1].Cond = math.MinInt, math.MaxInt },
		func(p *api.Policy) { p.Rules[0].Kind, p.Rules[0].Source, p.Rules[0].Perms = -1, every, 1<<32-1 },
		func(p *api.Policy) { p.Trans[0].Result, p.Trans[0].Cond = -1, -99 },
		func(p *api.Policy) { p.RoleTrans[0].Result, p.RoleTrans[0].Roles = 99, every },
		func(p *api.Policy) { p.Ranges[0].Range.Low.Sens, p.Ranges[1].Class = -1, -1 },
		func(p *api.Policy) { p.Constraints[0].Class, p.Constraints[1].Expr = 99, api.Expr{Op: 99} },
		func(p *api.Policy) { p.Sids[0].Context.User, p.Files[0].Context.Role = -1, 99 },
		func(p *api.Policy) { p.Users[0].Range.High.Sens, p.Users[0].Default.Sens = 99, -1 },
		func(p *api.Policy) { p.Cats = make([]string, 100) },
	} {
		p := changed(linked(t, large), spoil)
		decompiler.Symbols(p)
		m, code := decompiler.Module(p, "m")
		if code != api.OK && !same(m, api.Module{}) {
			t.Errorf("%d: got %s, %v", i, brief(m), code)
		}
		if src, code := decompiler.Source(p, "m"); code != api.OK && src != "" {
			t.Errorf("%d: got %q, %v", i, src, code)
		}
		for n := range min(len(p.Rules), 10) {
			decompiler.Rule(p, n)
		}
		decompiler.Context(p, api.Context{Role: 1})
	}
}
