package linker_test

import (
	"strconv"
	"strings"
	"testing"

	"accesscontrol/api"
	"accesscontrol/linker"
)

func at(sens int, cats uint64) api.Level { return api.Level{Sens: sens, Cats: cats} }

func span(low, high api.Level) api.Range { return api.Range{Low: low, High: high} }

// P13.2: symbols are numbered in the order of the modules and statements, with what their declarations say.
func TestSymbols(t *testing.T) {
	got := policy(t,
		"require type b; sensitivity s1; class k { r w }; type a alias { z y }; attribute x; bool p true; role r; category c1;",
		"class j { w }; sensitivity s0; require category c1; type b; attribute w; require role r; require sensitivity s1; user u roles { r } level s1:c0 range s1-s0:c1.c2; bool q false; role q; category c0; type c alias { v }; category c2; user v roles { q } level s0 range s0;",
		"class i { x }; user r roles { q } level s0 range s0; require role q; require sensitivity s0; category s0; sensitivity r; role k;")
	want := api.Policy{
		Classes: []api.Class{{Name: "k", Perms: []string{"r", "w"}}, {Name: "j", Perms: []string{"w"}}, {Name: "i", Perms: []string{"x"}}},
		Types:   []api.Type{{Name: "a", Aliases: []string{"z", "y"}}, {Name: "b"}, {Name: "c", Aliases: []string{"v"}}},
		Attrs:   []api.Attr{{Name: "x"}, {Name: "w"}},
		Roles:   []api.Role{{Name: "object_r"}, {Name: "r"}, {Name: "q"}, {Name: "k"}},
		Users: []api.User{
			{Name: "u", Roles: set(1), Default: at(0, 2), Range: span(at(0, 0), at(1, 7))},
			{Name: "v", Roles: set(2), Default: at(1, 0), Range: span(at(1, 0), at(1, 0))},
			{Name: "r", Roles: set(2), Default: at(1, 0), Range: span(at(1, 0), at(1, 0))},
		},
		Bools: []api.Bool{{Name: "p", Value: true}, {Name: "q"}},
		Sens:  []string{"s1", "s0", "r"},
		Cats:  []string{"c1", "c0", "c2", "s0"},
	}
	if !same(got, want) {
		t.Errorf("got %v, want %v", got, want)
	}
}

// P13.2: names that are declared twice. Within a module, scope.Check finds them.
func TestDeclaredTwice(t *testing.T) {
	const first = "class k { r }; type a alias { b }; attribute x; role o; bool v true; sensitivity s; category c; user u roles { o } level s range s;"
	for src, name := range map[string]string{
		"class k { r };": "k", "class k { r r };": "k", "role o;": "o", "bool v true;": "v", "sensitivity s;": "s", "category c;": "c",
		"user u roles { o } level s range s; require role o; require sensitivity s;": "u",
		"type a;": "a", "type b;": "b", "type x;": "x", "attribute a;": "a", "attribute b;": "b", "attribute x;": "x",
		"type y alias { a };": "a", "type y alias { w b x };": "b", "type y alias { w x b };": "x", "type a alias { b };": "a", "type b alias { a };": "b",
		"attribute a; attribute x;": "a",
	} {
		checkFault(t, modules(t, first, "role unique; "+src), 1, fault(api.ErrTwice, 1, 14, name))
		checkFault(t, modules(t, "category unique;", first, "role unique; "+src), 2, fault(api.ErrTwice, 1, 14, name))
	}
	checkFault(t, modules(t, "type x; type b;", first), 1, fault(api.ErrTwice, 1, 16, "b"))
	checkFault(t, modules(t, "attribute a;", first), 1, fault(api.ErrTwice, 1, 16, "a"))
	// In other name spaces the same names may be declared.
	policy(t, first, "class a { r }; type k; role k; role a; bool s true; sensitivity c; category s; user v roles { o } level s range s; require role o; require sensitivity s; attribute o; category object_r; type object_r;")
}

// P13.2: as many symbols of each kind as the limit says. A declaration without room is looked at nevertheless.
func TestLimitsOfSymbols(t *testing.T) {
	for _, x := range []struct {
		declaration string // % is a number
		count       int
	}{
		{"class n% { r };", 32}, {"type n%;", 256}, {"type n% alias { o% p% };", 256}, {"attribute n%;", 64}, {"role n%;", 31},
		{"user n% roles { o } level s range s; require role o; require sensitivity s;", 32}, {"bool n% true;", 16}, {"sensitivity n%;", 16}, {"category n%;", 64},
	} {
		levels := "role o; sensitivity s;"
		if strings.HasPrefix(x.declaration, "sens") || strings.HasPrefix(x.declaration, "role") {
			levels = ""
		}
		full, next := repeated(x.declaration, x.count), "n"+strconv.Itoa(x.count)
		policy(t, full, levels)
		checkFault(t, modules(t, repeated(x.declaration, x.count+2), levels), 0, fault(api.ErrLong, x.count+1, 1, next))
		checkFault(t, modules(t, full, levels+"\n\n "+strings.ReplaceAll(x.declaration, "%", "_other")), 1, fault(api.ErrLong, 3, 2, "n_other"))
		checkFault(t, modules(t, full, levels+"\n\n "+strings.ReplaceAll(x.declaration, "%", "3")), 1, fault(api.ErrTwice, 3, 2, "n3"))
	}
	checkFault(t, modules(t, repeated("type n%;", 256), "type other alias { more n7 };"), 1, fault(api.ErrTwice, 1, 1, "n7"))
	checkFault(t, modules(t, repeated("class n% { r };", 32), "class other { r r };"), 1, fault(api.ErrLong, 1, 1, "other"))
	policy(t, repeated("type n%;", 256), repeated("attribute m%;", 64))
}

// P13.2: the permissions of a class.
func TestPermissions(t *testing.T) {
	most := strings.Join(names("p", 32), " ")
	p := policy(t, "class k { "+most+" };")
	if len(p.Classes[0].Perms) != 32 || p.Classes[0].Perms[31] != "p31" {
		t.Errorf("got %v", p.Classes)
	}
	for src, want := range map[string]api.Fault{
		"class k { " + most + " q };":  fault(api.ErrLong, 1, 9, "k"),
		"class k { p0 " + most + " };": fault(api.ErrLong, 1, 9, "k"),
		"class k { r w x w };":         fault(api.ErrTwice, 1, 9, "k"),
		"class k { r r };":             fault(api.ErrTwice, 1, 9, "k"),
	} {
		checkFault(t, modules(t, "role o; "+src), 0, want)
	}
	// The same permissions may be those of two classes, and have the names of other symbols.
	policy(t, "class k { r k }; class j { k r }; type r;")
}

// P13.2: requirements that no module meets.
func TestRequirements(t *testing.T) {
	for src, want := range map[string]api.Fault{
		"require type y;":      fault(api.ErrRequire, 1, 7, "y"),
		"require attribute a;": fault(api.ErrRequire, 1, 7, "a"), // another kind
		"require type x;":      fault(api.ErrRequire, 1, 7, "x"),
		"require role y, r1;":  fault(api.ErrRequire, 1, 7, "y"),
		"require role r1, y;":  fault(api.ErrRequire, 1, 7, "y"),
		"require user y;":      fault(api.ErrRequire, 1, 7, "y"), "require bool y;": fault(api.ErrRequire, 1, 7, "y"),
		"require sensitivity y;": fault(api.ErrRequire, 1, 7, "y"), "require category y;": fault(api.ErrRequire, 1, 7, "y"),
		"require class y { r };":                          fault(api.ErrRequire, 1, 7, "y"),
		"require class file { read y };":                  fault(api.ErrRequire, 1, 7, "file"),
		"require type a; require bool z; require type y;": fault(api.ErrRequire, 1, 23, "z"),
		"require class file { read }; require type a;\nrequire type y; require class file { add };": fault(api.ErrRequire, 1, 7, "file"),
		"require class dir { add read }; require type d;\nrequire bool b;":                          fault(api.ErrRequire, 2, 1, "b"),
	} {
		checkFault(t, modules(t, base, "      "+src), 1, want)
		checkFault(t, modules(t, "      "+src, base), 0, want)
	}
	for _, src := range []string{
		"require type a, b, c, d; require attribute x, none; require role r1, object_r; require user u, v; require bool p; require sensitivity s0, s1; require category c2; require class file { read execute write };",
		"require class dir { add }; require class dir { read };",
		"require type y; type y;", "type z alias { y }; require type y;",
	} {
		policy(t, base, src)
		policy(t, src, base)
	}
	checkFault(t, modules(t, "require type y;", "require bool z;"), 0, fault(api.ErrRequire, 1, 1, "y"))
	checkFault(t, modules(t, "type y;", "require type y; require bool z;", "require type x;"), 1, fault(api.ErrRequire, 1, 17, "z"))
	policy(t, "require type y;", "require type y;", "attribute x;", "type y;")
}

// P13.3: the types of attributes and of roles.
func TestAttributesAndRoles(t *testing.T) {
	p := policy(t,
		"require type a; role one types y; typeattribute a x, z; attribute x; attribute y; require type b; require attribute z; typeattribute b y; role all types *; role none;",
		"type a alias { c }, x; attribute z; type b; require attribute x, y; typeattribute c y, y; typeattribute b z; type d; attribute w;",
		"require attribute x, y, z, w; require type a, b, c, d; role two types { x b }; role three types ~ x; role four types { * - y }; role five types w; role six types ~ { z - c }; role seven types { c d }; role eight types { a - a };")
	for i, want := range []api.Set{set(0), set(0, 1), set(0, 1), {}} {
		if p.Attrs[i].Types != want {
			t.Errorf("the types of %s: got %v", p.Attrs[i].Name, p.Attrs[i].Types)
		}
	}
	want := map[string]api.Set{
		"object_r": {}, "one": set(0, 1), "all": set(0, 1, 2), "none": {}, "two": set(0, 1), "three": set(1, 2), "four": set(2), "five": {}, "six": set(0, 2), "seven": set(0, 2), "eight": {},
	}
	for _, r := range p.Roles {
		if types, found := want[r.Name]; !found || r.Types != types || r.Next != (api.Set{}) {
			t.Errorf("the role %v", r)
		}
	}
	if len(p.Roles) != len(want) {
		t.Errorf("got %v", p.Roles)
	}
}

// P13.5: Symbol and Count of a linked policy.
func TestSymbolAndCount(t *testing.T) {
	p := policy(t, base)
	for kind, l := range map[int]string{
		api.SymClass: "file dir", api.SymType: "a b c", api.SymAttribute: "x none", api.SymRole: "object_r r1 r2 r3", api.SymUser: "u v", api.SymBool: "p q", api.SymSensitivity: "s0 s1", api.SymCategory: "c0 c1 c2",
	} {
		for i, name := range strings.Fields(l) {
			if n, found := linker.Symbol(p, kind, name); n != i || !found {
				t.Errorf("Symbol(%d, %s): got %d, %v", kind, name, n, found)
			}
		}
		if n := linker.Count(p, kind); n != len(strings.Fields(l)) {
			t.Errorf("Count(%d): got %d", kind, n)
		}
		for _, name := range []string{"y", "", "object", "file ", "FILE"} {
			if n, found := linker.Symbol(p, kind, name); n != 0 || found {
				t.Errorf("Symbol(%d, %q): got %d, %v", kind, name, n, found)
			}
		}
	}
	if n, found := linker.Symbol(p, api.SymType, "d"); n != 1 || !found {
		t.Errorf("Symbol of an alias: got %d, %v", n, found)
	}
	for _, kind := range []int{-1, 0, 9, 99} {
		if n, found := linker.Symbol(p, kind, "a"); n != 0 || found || linker.Count(p, kind) != 0 {
			t.Errorf("the kind %d: got %d, %v, %d", kind, n, found, linker.Count(p, kind))
		}
	}
	if n, found := linker.Symbol(p, api.SymAttribute, "a"); n != 0 || found {
		t.Errorf("Symbol of a type as an attribute: got %d, %v", n, found)
	}
}

// P13.5: Symbol, Count and Env of policies that are not valid: the first symbol of a name counts.
func TestSymbolOfAnyPolicy(t *testing.T) {
	p := api.Policy{
		Types: []api.Type{{Name: "a", Aliases: []string{"b", "c"}}, {Name: "b"}, {Name: "c"}, {Name: "d", Aliases: []string{"e"}}, {Name: "e"}},
		Bools: []api.Bool{{Name: ""}, {Name: "p"}, {Name: "p"}},
		Roles: []api.Role{{Name: "x"}, {Name: "object_r"}},
	}
	for name, want := range map[string]int{"a": 0, "b": 0, "c": 0, "d": 3, "e": 3} {
		if n, found := linker.Symbol(p, api.SymType, name); n != want || !found {
			t.Errorf("Symbol(%s): got %d, %v", name, n, found)
		}
	}
	for name, want := range map[string]int{"": 0, "p": 1} {
		if n, found := linker.Symbol(p, api.SymBool, name); n != want || !found {
			t.Errorf("Symbol(%q): got %d, %v", name, n, found)
		}
	}
	if n, found := linker.Symbol(p, api.SymRole, "object_r"); n != 1 || !found || linker.Count(p, api.SymType) != 5 || linker.Count(api.Policy{}, api.SymRole) != 0 {
		t.Errorf("got %d, %v", n, found)
	}
	many := api.Policy{Types: make([]api.Type, 1000)}
	many.Types[999].Name = "z"
	if n, found := linker.Symbol(many, api.SymType, "z"); n != 999 || !found || linker.Count(many, api.SymType) != 1000 {
		t.Errorf("got %d, %v", n, found)
	}
	e := linker.Env(p)
	if !same(e, api.Env{Types: p.Types, Attrs: p.Attrs}) || len(linker.Env(many).Types) != 1000 {
		t.Errorf("Env: got %v", e)
	}
}

// P13.5: Env returns the types and attributes in memory of its own.
func TestEnv(t *testing.T) {
	p := policy(t, base+"permissive c;")
	e := linker.Env(p)
	want := api.Env{
		Types: []api.Type{{Name: "a"}, {Name: "b", Aliases: []string{"d"}}, {Name: "c", Permissive: true}},
		Attrs: []api.Attr{{Name: "x", Types: set(0, 1)}, {Name: "none"}},
	}
	if !same(e, want) {
		t.Errorf("got %v", e)
	}
	e.Types[1].Aliases[0], e.Types[0].Name, e.Attrs[0].Name = "z", "z", "z"
	if !same(linker.Env(p), want) {
		t.Errorf("the policy has changed: %v", p)
	}
}

// P13.6: the context of a context in a source.
func TestContext(t *testing.T) {
	p := policy(t, base)
	text := func(user, role, kind string, low, high api.LevelText) api.ContextText {
		return api.ContextText{User: user, Role: role, Type: kind, Range: api.RangeText{Low: low, High: high}}
	}
	s0, s1, none := api.LevelText{Sens: "s0"}, api.LevelText{Sens: "s1", Cats: []api.Span{{From: "c0", To: "c1"}}}, api.LevelText{}
	bad := api.LevelText{Sens: "s1", Cats: []api.Span{{From: "c1", To: "c0"}}}
	for _, x := range []struct {
		c    api.ContextText
		want api.Context
		code api.Errno
	}{
		{text("v", "r2", "c", s0, s1), api.Context{User: 1, Role: 2, Type: 2, Range: span(at(0, 0), at(1, 3))}, api.OK}, // not valid
		{text("u", "object_r", "d", s1, none), api.Context{Type: 1, Range: span(at(1, 3), at(1, 3))}, api.OK},
		{text("y", "r1", "a", s0, none), api.Context{}, api.ErrNone},
		{text("u", "y", "a", s0, none), api.Context{}, api.ErrNone},
		{text("u", "r1", "y", s0, none), api.Context{}, api.ErrNone},
		{text("u", "r1", "x", s0, none), api.Context{}, api.ErrNone}, // an attribute
		{text("u", "r1", "", bad, none), api.Context{}, api.ErrNone},
		{text("u", "r1", "a", api.LevelText{Sens: "y"}, none), api.Context{}, api.ErrNone},
		{text("u", "r1", "a", none, none), api.Context{}, api.ErrNone},
		{text("u", "r1", "a", s0, bad), api.Context{}, api.ErrLevel},
		{text("u", "r1", "a", s1, s0), api.Context{}, api.ErrLevel},
	} {
		if c, code := linker.Context(p, x.c); c != x.want || code != x.code {
			t.Errorf("Context(%v): got %v, %v", x.c, c, code)
		}
	}
	p.Sens = append(p.Sens, "s0")
	if c, code := linker.Context(p, text("u", "r1", "a", s0, none)); c != (api.Context{}) || code != api.ErrArg {
		t.Errorf("names that are not proper: got %v, %v", c, code)
	}
	if c, code := linker.Context(p, text("u", "r9", "a", s0, none)); c != (api.Context{}) || code != api.ErrNone {
		t.Errorf("got %v, %v", c, code)
	}
	if c, code := linker.Context(api.Policy{}, api.ContextText{}); c != (api.Context{}) || code != api.ErrNone {
		t.Errorf("got %v, %v", c, code)
	}
}
