package linker_test

import (
	"slices"
	"strconv"
	"strings"
	"testing"

	"accesscontrol/api"
	"accesscontrol/linker"
)

// Link: at most MaxModules modules; no module gives a policy with the role of objects.
func TestCountOfModules(t *testing.T) {
	l := modules(t, slices.Repeat([]string{"attribute y; attribute y;"}, api.MaxModules+1)...)
	checkFault(t, l, -1, api.Fault{Code: api.ErrLong})
	checkFault(t, l[:api.MaxModules], 0, fault(api.ErrTwice, 1, 14, "y"))
	for i := range l {
		l[i].Stmts = nil
		l[i].Name = "m" + strings.Repeat("x", i)
	}
	only := api.Policy{Roles: []api.Role{{Name: "object_r"}}}
	for _, count := range []int{0, 1, 2, api.MaxModules} {
		if p, n, f := linker.Link(l[:count]); n != -1 || f != (api.Fault{}) || !same(p, only) {
			t.Errorf("Link of %d empty modules: got %v, %d, %v", count, p, n, f)
		}
	}
	l[3].Name = "m"
	checkFault(t, l, -1, api.Fault{Code: api.ErrLong})
}

// P13.1: first step: modules with the name of one before them.
func TestNamesOfModules(t *testing.T) {
	for _, x := range []struct {
		names  string
		module int
	}{
		{"a a", 1}, {"a b a", 2}, {"a b b a", 2}, {"a b c c c", 3}, {"a b c d a", 4},
	} {
		words := strings.Fields(x.names)
		l := modules(t, slices.Repeat([]string{"optional { type a; }"}, len(words))...)
		for i, name := range words {
			l[i].Name = name
		}
		checkFault(t, l, x.module, api.Fault{Code: api.ErrTwice, Name: words[x.module]})
	}
	l := modules(t, "type a;", "type b;")
	l[0].Name, l[1].Name = "a", "b"
	l[1].Version = l[0].Version
	if _, n, f := linker.Link(l); n != -1 || f != (api.Fault{}) {
		t.Errorf("got %d, %v", n, f)
	}
}

// P13.1: second step: what stands where it may not.
func TestPlaces(t *testing.T) {
	const head = "class k { r }; type a; bool v true; role o; sensitivity s;\n"
	for src, want := range map[string]api.Fault{
		"optional { attribute y; }":                              fault(api.ErrKind, 2, 1, ""),
		"type b; optional { attribute y; } optional { type z; }": fault(api.ErrKind, 2, 9, ""),
		"if v { neverallow a a : k r; }":                         fault(api.ErrKind, 2, 8, ""),
		"if v { allow a a : k r; neverallow a a : k r; }":        fault(api.ErrKind, 2, 25, ""),
		"if v { allow a a : k r; } else { role y; }":             fault(api.ErrKind, 2, 34, ""),
		"if v { allow a a : k r; type b; } else { role y; }":     fault(api.ErrKind, 2, 25, ""),
		"if v { optional { allow a a : k r; } }":                 fault(api.ErrKind, 2, 8, ""),
		"if v { optional { type b; } } optional { type b; }":     fault(api.ErrKind, 2, 8, ""),
		"optional { if v { type b; } }":                          fault(api.ErrKind, 2, 1, ""),
		"if v { if v { allow a a : k r; } }":                     fault(api.ErrKind, 2, 8, ""),
		"if v { require type a; }":                               fault(api.ErrKind, 2, 8, ""),
		// scope.Check comes behind the places of all statements of the module.
		"permissive z; if v { type b; }":             fault(api.ErrKind, 2, 22, ""),
		"type a; optional { attribute y; }":          fault(api.ErrKind, 2, 9, ""),
		"permissive z; allow y y : y y;":             fault(api.ErrScope, 2, 1, "z"),
		"type a;":                                    fault(api.ErrTwice, 2, 1, "a"),
		"attribute a;":                               fault(api.ErrKind, 2, 1, "a"),
		"role object_r;":                             fault(api.ErrTwice, 2, 1, "object_r"),
		"if v { allow a a : k r; allow a a : k w; }": fault(api.ErrPerm, 2, 8, "w"),
		"sid n u:o:a:s;":                             fault(api.ErrScope, 2, 1, "u"),
	} {
		checkFault(t, modules(t, head+src), 0, want)
		checkFault(t, modules(t, "attribute y; require type z;", head+src), 1, want)
	}
}

// P13.1: every kind of statement that may not stand in a block of if, and those that may.
func TestPlacesInIf(t *testing.T) {
	for _, src := range []string{
		"class k { r };", "type y;", "attribute y;", "typeattribute a x;", "role y;", "roleallow r1 r2;", "role_transition r1 a : file r2;", "user y roles { r1 } level s0 range s0;", "bool y true;",
		"sensitivity y;", "category y;", "neverallow a b : file read;", "range_transition a b : file s0;", "constrain file read u1 == u2;", "validatetrans file u1 == u2;", "if p { allow a b : file read; }",
		"optional { type y; }", "require type a;", "sid y u:object_r:a:s0;", "filecon \"/\" any u:object_r:a:s0;", "permissive a;", "assert y noflow a b;",
	} {
		checkFault(t, modules(t, base+"if p { "+src+" }"), 0, behind(api.ErrKind, 8))
		checkFault(t, modules(t, base+"if p { allow a b : file read; } else { "+src+" }"), 0, behind(api.ErrKind, 40))
		if !strings.HasPrefix(src, "optional") {
			policy(t, base+src)
		}
	}
	policy(t, base+"if p { allow a b : file read; auditallow a b : file read; dontaudit a b : file read; type_transition a b : file c; type_change a b : file c; type_member a b : file c; }")
}

// The steps go through all modules, one step after the other. (The steps for attributes and roles find nothing that those before them accept.)
func TestOrderOfSteps(t *testing.T) {
	steps := []struct {
		src  string // with the number of the module for %
		want api.Fault
	}{
		{"optional { type o%; }", fault(api.ErrKind, 1, 1, "")},
		{"class k% { y y };", fault(api.ErrTwice, 1, 1, "k%")},
		{"require type y%;", fault(api.ErrRequire, 1, 1, "y%")},
		{"role r%; roleallow object_r r%;", fault(api.ErrKind, 1, 10, "")},
	}
	for i, early := range steps {
		for j, late := range steps[i:] {
			module, want := 1, early.want
			if j == 0 {
				module = 0
			}
			want.Name = strings.ReplaceAll(want.Name, "%", strconv.Itoa(module))
			l := modules(t, strings.ReplaceAll(late.src, "%", "0"), strings.ReplaceAll(early.src, "%", "1"))
			checkFault(t, l, module, want)
			checkFault(t, slices.Concat(l[:1], modules(t, "", "", "attribute z;")[2:], l[1:]), 2*module, want)
			l = append(l, api.Module{Name: "m1"})
			checkFault(t, l, 2, api.Fault{Code: api.ErrTwice, Name: "m1"})
		}
	}
}
