package modcheck_test

import (
	"slices"
	"testing"

	"accesscontrol/api"
	"accesscontrol/modcheck"
	"accesscontrol/syntax"
)

// P11.3: the structure of the module comes first, and has no position.
func TestCheckOfStructure(t *testing.T) {
	a := api.Stmt{Kind: api.StmtType, Name: "a", Pos: at(3, 4)}
	lost := api.Stmt{Kind: api.StmtPermissive, Pos: at(5, 6), Source: api.NameSet{Names: []string{"z"}}}
	deep := a
	for range api.MaxNest + 1 {
		deep = api.Stmt{Kind: api.StmtOptional, Pos: at(1, 1), Then: []api.Stmt{deep}}
	}
	deeper := deep
	for range 60000 {
		deeper = api.Stmt{Kind: api.StmtIf, Then: []api.Stmt{deeper}}
	}
	for _, x := range []struct {
		m    api.Module
		code api.Errno
	}{
		{api.Module{}, api.ErrName},
		{api.Module{Name: "type", Version: -1}, api.ErrName},
		{api.Module{Name: "m"}, api.OK},
		{api.Module{Name: "m", Version: 10000, Stmts: []api.Stmt{lost, {}}}, api.ErrRange},
		{api.Module{Name: "m", Stmts: []api.Stmt{a, a, lost, {Pos: at(1, 2)}}}, api.ErrArg},
		{api.Module{Name: "m", Stmts: []api.Stmt{lost, deep}}, api.ErrLong},
		{api.Module{Name: "m", Stmts: []api.Stmt{deeper}}, api.ErrLong},
		{api.Module{Name: "m", Stmts: slices.Repeat([]api.Stmt{a}, api.MaxStmts+1)}, api.ErrLong},
	} {
		checkModule(t, x.m, api.Fault{Code: x.code})
	}
}

// P11.3: what is checked, in which order.
func TestCheck(t *testing.T) {
	const head = "module m 1; class c { p q }; type a; type b; attribute x; role k; bool v true; sensitivity s; sensitivity t;\n"
	for src, want := range map[string]api.Fault{
		"": {},
		"if v { allow a b : c p; auditallow a b : c p; dontaudit a b : c p; type_transition a b : c a; type_change a b : c a; type_member a b : c a; }": {},
		"neverallow a b : c p;": {},
		"optional { neverallow a b : c p; attribute y; optional { if v { allow a b : c p; } } }": {},
		"if v { neverallow a b : c p; }":                                                       fault(api.ErrKind, 2, 8, ""),
		"if v { allow a b : c p;\nattribute y; }":                                              fault(api.ErrKind, 3, 1, ""),
		"if v { allow a b : c p; } else {\nrange_transition a b : c s; }":                      fault(api.ErrKind, 3, 1, ""),
		"if v {\noptional { neverallow a b : c p; } }":                                         fault(api.ErrKind, 3, 1, ""),
		"if v {\nif v {\npermissive a; } }":                                                    fault(api.ErrKind, 3, 1, ""),
		"optional { if v {\ntype y; } }":                                                       fault(api.ErrKind, 3, 1, ""),
		"optional { type y; } else { optional {\ntype z; } else { if v {\npermissive a; } } }": fault(api.ErrKind, 4, 1, ""),
		// The fault of scope.Check is found first, wherever it is.
		"if v { attribute y; } class d { p p }; permissive z;":                          fault(api.ErrScope, 2, 40, "z"),
		"class d { p p }; allow a b : c r;":                                             fault(api.ErrPerm, 2, 18, "r"),
		"roleallow object_r k; optional { type a; }":                                    fault(api.ErrTwice, 2, 34, "a"),
		"range_transition a b : c t-s;\noptional { type d; } else { allow a y : c p; }": fault(api.ErrScope, 3, 29, "y"),
		// Then the first statement counts, and its place before its fault.
		"class d { p p };\nif v { neverallow a b : c p; }":                                     fault(api.ErrTwice, 2, 1, "p"),
		"if v { neverallow a b : c p; }\nclass d { p p };":                                     fault(api.ErrKind, 2, 8, ""),
		"if v { class d { p p }; }":                                                            fault(api.ErrKind, 2, 8, ""),
		"if v { roleallow k object_r; }":                                                       fault(api.ErrKind, 2, 8, ""),
		"optional { roleallow k object_r; } else { class d { p p }; }":                         fault(api.ErrKind, 2, 12, "object_r"),
		"optional { type d; } else { class d { p p }; }\nroleallow object_r k;":                fault(api.ErrTwice, 2, 29, "p"),
		"optional { optional { type d; } else { constrain c p l1 == u1; } class e { q q }; }":  fault(api.ErrKind, 2, 40, ""),
		"optional { class e { q q };\noptional { type d; } else { constrain c p l1 == u1; } }": fault(api.ErrTwice, 2, 12, "q"),
		"user u roles { object_r } level t range s;":                                           fault(api.ErrKind, 2, 1, "object_r"),
		"user u roles { k } level t range s;":                                                  fault(api.ErrLevel, 2, 1, ""),
		"constrain c p u1 == u2 && t1 dom t2;":                                                 fault(api.ErrKind, 2, 1, ""),
		"validatetrans c u3 == r3;":                                                            fault(api.ErrKind, 2, 1, ""),
	} {
		m, f := syntax.Parse(head + src)
		if f.Code != api.OK {
			t.Fatalf("Parse(%q): got %v", src, f)
		}
		checkModule(t, m, want)
	}
}

// P11.3: the levels that are known to a statement are those of the blocks in which it stands, from the outside to the inside.
func TestLevelsInBlocks(t *testing.T) {
	const head = "class c { p }; type a; bool v true; sensitivity s; require sensitivity q;\n"
	for src, want := range map[string]api.Fault{
		"range_transition a a : c q-s; range_transition a a : c s-q;":                                                             {},
		"optional { sensitivity t; range_transition a a : c s-t; }":                                                               {},
		"optional { sensitivity t;\nrange_transition a a : c t-s; }":                                                              fault(api.ErrLevel, 3, 1, ""),
		"optional {\nrange_transition a a : c t-s; sensitivity t; }":                                                              fault(api.ErrLevel, 3, 1, ""),
		"optional { sensitivity q;\nrange_transition a a : c q-s; }":                                                              fault(api.ErrLevel, 3, 1, ""),
		"optional { sensitivity t; range_transition a a : c t-u; } sensitivity u;":                                                fault(api.ErrLevel, 2, 27, ""), // u is ahead of t
		"optional { sensitivity t; range_transition a a : c u-t; } sensitivity u;":                                                {},
		"optional { sensitivity t; } else { require sensitivity t; range_transition a a : c t-s; }":                               {},
		"optional { sensitivity t; } optional { require sensitivity t; range_transition a a : c t-s; }":                           {},
		"optional { type d; } else { sensitivity t;\nrange_transition a a : c t-s; }":                                             fault(api.ErrLevel, 3, 1, ""),
		"optional { sensitivity t; optional { sensitivity u;\nrange_transition a a : c u-t; } }":                                  fault(api.ErrLevel, 3, 1, ""),
		"optional { optional { sensitivity u;\nrange_transition a a : c t-u; } sensitivity t; }":                                  {},
		"optional { optional { sensitivity u; }\nrequire sensitivity u; range_transition a a : c u-s; }":                          {},
		"optional { sensitivity t; optional { type d; } else { sensitivity u; range_transition a a : c t-u; } }":                  {},
		"optional { category g; optional { category h; sid n u:object_r:a:s:h.g; } } user u roles { k } level s range s; role k;": fault(api.ErrLevel, 2, 47, ""),
		"optional { category g; optional { category h; sid n u:object_r:a:s:g.h; } } user u roles { k } level s range s; role k;": {},
		"optional { require sensitivity t; optional { sensitivity t;\nrange_transition a a : c t-s; } }":                          fault(api.ErrLevel, 3, 1, ""),
		"optional { sensitivity t; }\nrange_transition a a : c q-s;":                                                              {},
	} {
		checkModule(t, module(t, head+src), want)
	}
}

// P11.3: the examples of the chapter.
func TestExamples(t *testing.T) {
	for src, want := range map[string]api.Fault{
		"module m 1; bool x true; if x { attribute a; }":                                                    fault(api.ErrKind, 1, 33, ""),
		"module m 1; class c { a b a };":                                                                    fault(api.ErrTwice, 1, 13, "a"),
		"module m 1; sensitivity s0; sensitivity s1; role r; user u roles { r } level s0 range s1;":         fault(api.ErrLevel, 1, 53, ""),
		"module m 1; sensitivity s0; require sensitivity s1; role r; user u roles { r } level s0 range s1;": {},
		"module m 1; class c { a }; constrain c a l1 == u2;":                                                fault(api.ErrKind, 1, 28, ""),
	} {
		m, f := syntax.Parse(src)
		if f.Code != api.OK {
			t.Fatalf("Parse(%q): got %v", src, f)
		}
		checkModule(t, m, want)
	}
	for src, want := range map[string]api.Fault{
		"allow { a - a } b : c d;":        fault(api.ErrNone, 1, 1, "source"),
		"if x || !x { allow a b : c d; }": fault(api.ErrState, 1, 1, ""),
	} {
		if got := modcheck.Warnings(module(t, src)); !slices.Equal(got, []api.Fault{want}) {
			t.Errorf("Warnings of %q: got %v, want %v", src, got, want)
		}
	}
}
