package scope_test

import (
	"slices"
	"strings"
	"testing"

	"accesscontrol/api"
	"accesscontrol/scope"
)

// P10.1: what each kind of statement declares or requires.
func TestSymbolsOfStatements(t *testing.T) {
	for src, want := range map[string]string{
		"":                                         "",
		"class c { p };":                           "class c{p}@1",
		"class c { p q p r q };":                   "class c{p q r}@1",
		"type a;":                                  "type a@1",
		"type a alias { b c }, x, y;":              "type a@1, type b@1, type c@1",
		"attribute x;":                             "attribute x@1",
		"role r types a;":                          "role r@1",
		"user u roles { r } level s range s;":      "user u@1",
		"bool b true;":                             "bool b@1",
		"bool b false;":                            "bool b@1",
		"sensitivity s;":                           "sensitivity s@1",
		"category c;":                              "category c@1",
		"require class c { p q p };":               "class c?{p q}@1",
		"require type a, b;":                       "type a?@1, type b?@1",
		"require attribute x;":                     "attribute x?@1",
		"require role r, object_r, q;":             "role r?@1, role q?@1",
		"require user u;":                          "user u?@1",
		"require bool b;":                          "bool b?@1",
		"require sensitivity s, s;":                "sensitivity s?@1",
		"require category c;":                      "category c?@1",
		"require type object_r; attribute kernel;": "type object_r?@1, attribute kernel@1:24",
		"typeattribute a x; roleallow r r;":        "",
		"role_transition r a : c r;":               "",
		"allow a b : c p; neverallow a b : c p;":   "",
		"type_transition a b : c d; type_change a b : c d; type_member a b : c d;": "",
		"range_transition a b : c s; permissive a; assert n noflow a b;":           "",
		"constrain c p u1 == u2; validatetrans c u1 == u2;":                        "",
		"sid kernel u:r:t:s; filecon \"/\" any u:r:t:s;":                           "",
		"optional { type a; } else { require type b; }":                            "",
		"if b { type a; require type b; } else { attribute x; }":                   "",
	} {
		checkBlock(t, parsed(t, src), want, api.Fault{})
	}
}

// P10.1: the symbols of several statements.
func TestSymbolsOfMany(t *testing.T) {
	for src, want := range map[string]string{
		"type a, x;\nrequire attribute x;":                                                                                              "type a@1, attribute x?@2",
		"type a, x;\nrequire attribute x;\nattribute x;":                                                                                "type a@1, attribute x@3",
		"attribute x;\nrequire attribute x, y, x;":                                                                                      "attribute x@1, attribute y?@2",
		"require type a, b;\ntype c alias { b };\nrequire type c, d;":                                                                   "type a?@1, type c@2, type b@2, type d?@3",
		"require class c { p };\nrequire class c { p q };":                                                                              "class c?{p q}@1",
		"require class c { q };\nrequire class d { p };\nrequire class c { r p };\nrequire class c { p s r };":                          "class c?{q r p s}@1, class d?{p}@2",
		"require class c { q };\nclass c { p };\nrequire class c { r };":                                                                "class c{p}@2",
		"require role r;\nrequire role r, q, r;\nrole q;":                                                                               "role r?@1, role q@3",
		"require type a;\nrequire role a;\nrequire user a;\nclass a { a };\nbool a true;\nsensitivity a;\ncategory a;\nrequire bool a;": "type a?@1, role a?@2, user a?@3, class a{a}@4, bool a@5, sensitivity a@6, category a@7",
		"type object_r;\nuser object_r roles { r } level s range s;\nrequire role object_r;":                                            "type object_r@1, user object_r@2",
	} {
		checkBlock(t, parsed(t, src), want, api.Fault{})
	}
}

// P10.1: the first fault in the order of the source.
func TestFaultsOfSymbols(t *testing.T) {
	for _, x := range []struct {
		src  string
		want api.Fault
	}{
		{"type a;\ntype a;", fault(api.ErrTwice, 2, 1, "a")}, {"type a;\nattribute a;", fault(api.ErrKind, 2, 1, "a")}, {"attribute a;\ntype a;", fault(api.ErrKind, 2, 1, "a")}, {"attribute a;\nattribute a;", fault(api.ErrTwice, 2, 1, "a")},
		{"type a alias { a };", fault(api.ErrTwice, 1, 1, "a")}, {"type a alias { b c b };", fault(api.ErrTwice, 1, 1, "b")}, {"type a alias { b };\n type b;", fault(api.ErrTwice, 2, 2, "b")}, {"type b;\ntype a alias { c b };", fault(api.ErrTwice, 2, 1, "b")},
		{"attribute b;\ntype a alias { c b };", fault(api.ErrKind, 2, 1, "b")}, {"type a alias { b };\nattribute b;", fault(api.ErrKind, 2, 1, "b")}, {"type a alias { b };\nrequire attribute c, b;", fault(api.ErrKind, 2, 1, "b")},
		{"type a;\nrequire attribute a;", fault(api.ErrKind, 2, 1, "a")}, {"require attribute a;\ntype a;", fault(api.ErrKind, 2, 1, "a")}, {"require type a;\nattribute a;", fault(api.ErrKind, 2, 1, "a")}, {"require type a;\nrequire attribute a;", fault(api.ErrKind, 2, 1, "a")}, {"require attribute a;\nrequire type b, a;", fault(api.ErrKind, 2, 1, "a")},
		{"class c { p };\nclass c { p };", fault(api.ErrTwice, 2, 1, "c")}, {"role r;\nrole r;", fault(api.ErrTwice, 2, 1, "r")}, {"bool b true;\nbool b false;", fault(api.ErrTwice, 2, 1, "b")}, {"sensitivity s;\nsensitivity s;", fault(api.ErrTwice, 2, 1, "s")}, {"category c;\ncategory c;", fault(api.ErrTwice, 2, 1, "c")},
		{"user u roles { r } level s range s;\nuser u roles { q } level s range s;", fault(api.ErrTwice, 2, 1, "u")}, {"role object_r;", fault(api.ErrTwice, 1, 1, "object_r")}, {"require role object_r;\nrole object_r;", fault(api.ErrTwice, 2, 1, "object_r")},
		{"require type a;\ntype a;\nrequire type a;\ntype a;", fault(api.ErrTwice, 4, 1, "a")}, {"type a;\nrequire type b;\ntype b;\nattribute b;\ntype a;", fault(api.ErrKind, 4, 1, "b")}, {"role r;\nrole object_r;\nrole r;", fault(api.ErrTwice, 2, 1, "object_r")},
		{"type a;\noptional { type a; }\nif b { attribute a; }\ntype a;", fault(api.ErrTwice, 4, 1, "a")}, {"type a; type b; type a; type b;", fault(api.ErrTwice, 1, 17, "a")},
	} {
		checkBlock(t, parsed(t, x.src), "", x.want)
	}
}

// P10.1: statements that Parse cannot return.
func TestSymbolsOfOddStatements(t *testing.T) {
	at := api.Pos{Line: 1, Col: 1}
	list := func(l ...api.Stmt) []api.Stmt { return l }
	for _, op := range []int{-1, 0, api.SymCategory + 1} {
		checkBlock(t, list(api.Stmt{Kind: api.StmtRequire, Op: op, Name: "a", List: []string{"b", "b"}}), "", api.Fault{})
	}
	for _, kind := range []int{-1, 0, api.StmtAssert + 1} {
		checkBlock(t, list(api.Stmt{Kind: kind, Op: api.SymType, Name: "a", List: []string{"b"}, Aliases: []string{"c"}}), "", api.Fault{})
	}
	checkBlock(t, list(api.Stmt{Kind: api.StmtClass, Pos: at, Name: "c"}), "class c@1", api.Fault{})
	checkBlock(t, list(api.Stmt{Kind: api.StmtType, Pos: at, Name: "7 x"}, api.Stmt{Kind: api.StmtBool, Pos: at}), "type 7 x@1, bool @1", api.Fault{})
	checkBlock(t, list(api.Stmt{Kind: api.StmtType}, api.Stmt{Kind: api.StmtAttribute}), "", api.Fault{Code: api.ErrKind})
	checkBlock(t, list(api.Stmt{Kind: api.StmtRequire, Op: api.SymType, Pos: at, Name: "c", List: []string{"a"}}), "type a?@1", api.Fault{})
	checkBlock(t, list(api.Stmt{Kind: api.StmtAttribute, Pos: at, Name: "x", Aliases: []string{"y"}, Then: list(api.Stmt{Kind: api.StmtAttribute, Name: "z"})}), "attribute x@1", api.Fault{})
	for i, want := range []string{"class n?{m}@1", "type m?@1", "attribute m?@1", "role m?@1", "user m?@1", "bool m?@1", "sensitivity m?@1", "category m?@1"} {
		checkBlock(t, list(api.Stmt{Kind: api.StmtRequire, Op: api.SymClass + i, Pos: at, Name: "n", List: []string{"m"}}), want, api.Fault{})
	}
}

// P10.2: Declared returns the names of a kind that are not required, in their order.
func TestDeclared(t *testing.T) {
	l := symbols("type b@1, attribute x@1, type a?@1, type c{p}@2, type a@3, any d@1, class b{p}@1, role x?@1, type b@4")
	for kind, want := range map[int]string{0: "d", api.SymClass: "b", api.SymType: "b c a b", api.SymAttribute: "x", api.SymRole: "", api.SymUser: "", -1: "", api.SymCategory + 1: ""} {
		if got := scope.Declared(l, kind); !slices.Equal(got, strings.Fields(want)) {
			t.Errorf("Declared(%d): got %v, want %s", kind, got, want)
		}
	}
	if got := scope.Declared(nil, api.SymType); len(got) != 0 {
		t.Errorf("Declared of nothing: got %v", got)
	}
	s, _ := scope.Block(parsed(t, "type b alias { a }; require type c, b; attribute d; type c;"))
	if got := scope.Declared(s, api.SymType); !slices.Equal(got, []string{"b", "a", "c"}) {
		t.Errorf("Declared of symbols: got %v", got)
	}
}
