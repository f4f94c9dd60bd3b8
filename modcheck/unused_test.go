package modcheck_test

import (
	"reflect"
	"slices"
	"strconv"
	"strings"
	"testing"

	"accesscontrol/api"
	"accesscontrol/modcheck"
)

// spelled writes the kinds and the names of symbols, with permissions in braces.
func spelled(l []api.Symbol) string {
	kinds := []string{api.SymClass: "class", api.SymType: "type", api.SymAttribute: "attribute", api.SymRole: "role", api.SymUser: "user", api.SymBool: "bool", api.SymSensitivity: "sensitivity", api.SymCategory: "category"}
	var words []string
	for _, s := range l {
		word := kinds[s.Kind] + " " + s.Name
		if len(s.Perms) > 0 {
			word += "{" + strings.Join(s.Perms, " ") + "}"
		}
		words = append(words, word)
	}
	return strings.Join(words, ", ")
}

// P11.4: what a module requires and does not use.
func TestUnused(t *testing.T) {
	const all = "type e; require class c { p q }; require type a, b; require attribute x; require role k; require user u; require bool v; require sensitivity s; require category g;\n"
	for src, want := range map[string]string{
		"":                                 "",
		"type a;":                          "",
		all:                                "class c{p q}, type a, type b, attribute x, role k, user u, bool v, sensitivity s, category g",
		all + "allow b x : c p;":           "type a, role k, user u, bool v, sensitivity s, category g",
		all + "type_transition e e : c a;": "type b, attribute x, role k, user u, bool v, sensitivity s, category g",
		all + "typeattribute b x;":         "class c{p q}, type a, role k, user u, bool v, sensitivity s, category g",
		all + "sid n u:k:b:s:g;":           "class c{p q}, type a, attribute x, bool v",
		all + "filecon \"/\" any u:object_r:e:z:g.y;":                                                    "class c{p q}, type a, type b, attribute x, role k, bool v, sensitivity s",
		all + "if v { permissive a; } else { permissive x; }":                                            "class c{p q}, type b, role k, user u, sensitivity s, category g",
		all + "if z { if v { permissive { - b }; } }":                                                    "class c{p q}, type a, attribute x, role k, user u, sensitivity s, category g",
		all + "optional { permissive a; } else { roleallow k k; }":                                       "class c{p q}, type b, attribute x, user u, bool v, sensitivity s, category g",
		all + "optional { optional { permissive a; } else { optional { if v { type f; } } } }":           "class c{p q}, type b, attribute x, role k, user u, sensitivity s, category g",
		all + "if z { optional { permissive a; } } else { optional { type d; } else { permissive x; } }": "class c{p q}, type b, role k, user u, bool v, sensitivity s, category g",
		all + "validatetrans c u1 in u && ! r1 in k || t2 in { a x };":                                   "type b, bool v, sensitivity s, category g",
		all + "constrain d p l1 in { u k a };":                                                           "class c{p q}, type a, type b, attribute x, role k, user u, bool v, sensitivity s, category g",
		all + "range_transition e e : { c - d } s-t:y.g;":                                                "type a, type b, attribute x, role k, user u, bool v",
		all + "user y roles { k } level s:g range s;":                                                    "class c{p q}, type a, type b, attribute x, user u, bool v",
		all + "role_transition k { a - x } : d l;":                                                       "class c{p q}, type b, user u, bool v, sensitivity s, category g",
		all + "role_transition l e : d k; role l types { x };":                                           "class c{p q}, type a, type b, user u, bool v, sensitivity s, category g",
		all + "assert k noflow a b; sid v x:x:x:x;":                                                      "class c{p q}, attribute x, role k, user u, bool v, sensitivity s, category g", // the names of assertions and identifiers are no symbols
		// The kind counts.
		all + "type_transition e e : e x; typeattribute a b;":                              "class c{p q}, type b, attribute x, role k, user u, bool v, sensitivity s, category g",
		all + "roleallow a u; if k { allow c s : v g; }":                                   "class c{p q}, type a, type b, attribute x, role k, user u, bool v, sensitivity s, category g",
		"require type a; require role a; require user a; require bool a; permissive a;":    "role a, user a, bool a",
		"require type a; require role a; require user a; require bool a; if a { type e; }": "type a, role a, user a",
		// What is declared is not required, nor is what stands in blocks.
		"require type a, b; type a; permissive c;":                                                "type b",
		"optional { require type a; }":                                                            "",
		"require type a; optional { require type a, b; permissive b; }":                           "type a",
		"require type a; optional { type b alias { a }; }":                                        "type a",
		"require role object_r, k;":                                                               "role k",
		"require class c { p }; require class c { q p }; require class d { p }; allow a b : d q;": "class c{p q}",
		"require type a; require type a;":                                                         "type a",
		// A module whose symbols have a fault.
		"require type a; type b; type b;":              "",
		"require type a; require attribute a;":         "",
		"require type a; role object_r;":               "",
		"require type a; optional { type b; type b; }": "type a",
		"require type a; permissive z;":                "type a",
	} {
		if got := spelled(modcheck.Unused(module(t, src))); got != want {
			t.Errorf("Unused(%q): got %s, want %s", src, got, want)
		}
	}
}

// P11.4: the symbols are those of scope.Symbols, in memory of their own.
func TestUnusedSymbols(t *testing.T) {
	m := module(t, "type b;\nrequire class c { p p q }; require type a,\nd;\nrequire class c { r };")
	want := []api.Symbol{{Kind: api.SymClass, Name: "c", Required: true, Perms: []string{"p", "q", "r"}, Pos: at(2, 1)}, {Kind: api.SymType, Name: "a", Required: true, Pos: at(2, 28)}, {Kind: api.SymType, Name: "d", Required: true, Pos: at(2, 28)}}
	got := modcheck.Unused(m)
	if !reflect.DeepEqual(got, want) {
		t.Errorf("Unused: got %v, want %v", got, want)
	}
	clear(got[0].Perms)
	if again := modcheck.Unused(m); !reflect.DeepEqual(again, want) {
		t.Errorf("Unused shares memory: got %v", again)
	}
}

// P11.4: modules that Parse cannot return.
func TestUnusedOfOddModules(t *testing.T) {
	need := func(kind int, l ...string) api.Stmt { return api.Stmt{Kind: api.StmtRequire, Op: kind, List: l} }
	use := api.Stmt{Kind: api.StmtPermissive, Source: api.NameSet{Names: []string{"", "a"}}}
	for want, l := range map[string][]api.Stmt{
		"type , type b":  {need(api.SymType, "a", "", "b"), use},
		"attribute b":    {need(api.SymAttribute, "a", "b"), use, need(99, "c"), need(0, "c")},
		"type a, role a": {need(api.SymType, "a"), need(api.SymRole, "a"), {Kind: api.StmtRule, Then: []api.Stmt{use}, Else: []api.Stmt{use}}, {Kind: -1, Source: use.Source}, {}},
		"type c":         {need(api.SymType, "a", "c"), {Kind: api.StmtIf, Else: []api.Stmt{{Kind: api.StmtOptional, Else: []api.Stmt{{Kind: api.StmtIf, Then: []api.Stmt{use}}}}}}},
	} {
		if got := spelled(modcheck.Unused(api.Module{Version: -1, Stmts: l})); got != want {
			t.Errorf("Unused(%v): got %s, want %s", l, got, want)
		}
	}
	deep := use
	for i := range 60000 {
		deep = api.Stmt{Kind: api.StmtIf, Then: []api.Stmt{deep}}
		if i%2 == 0 {
			deep.Kind = api.StmtOptional
		}
	}
	if got := spelled(modcheck.Unused(api.Module{Stmts: []api.Stmt{need(api.SymType, "b", "a"), deep}})); got != "type b" {
		t.Errorf("Unused of nested blocks: got %s", got)
	}
}

// P11.4: many classes with many permissions, which are far more together than the module has names.
func TestUnusedOfManyClasses(t *testing.T) {
	var classes, perms []string
	for i := range 20000 {
		classes, perms = append(classes, "c"+strconv.Itoa(i)), append(perms, "p"+strconv.Itoa(i))
	}
	rule := api.Stmt{Kind: api.StmtRule, Op: api.RuleAllow, Class: api.NameSet{Names: classes[1:]}, Perms: api.NameSet{Names: perms}}
	l := []api.Stmt{rule, {Kind: api.StmtIf, Then: []api.Stmt{rule}}}
	for _, name := range slices.Concat(classes, perms[:1]) {
		l = append(l, api.Stmt{Kind: api.StmtRequire, Op: api.SymClass, Name: name, List: []string{"p"}})
	}
	if got := spelled(modcheck.Unused(api.Module{Stmts: l})); got != "class c0{p}, class p0{p}" {
		t.Errorf("Unused: got %.200s", got)
	}
}
