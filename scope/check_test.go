package scope_test

import (
	"slices"
	"strconv"
	"testing"

	"accesscontrol/api"
	"accesscontrol/scope"
)

// P10.4: the faults of a module without blocks.
func TestCheck(t *testing.T) {
	const given = "type a; type b alias { f }; attribute x; class c { p q }; class d { p }; role k; user u roles { k } level s range t; bool v true; sensitivity s; sensitivity t; category g; category h;\n"
	for _, x := range []struct {
		src  string
		code api.Errno
		name string
	}{
		{"", api.OK, ""}, {"type e, x;", api.OK, ""}, {"type e, y;", api.ErrScope, "y"}, {"type e, a;", api.ErrKind, "a"}, {"type e, x, f, y;", api.ErrKind, "f"}, {"type e, e;", api.ErrKind, "e"},
		{"typeattribute a x;", api.OK, ""}, {"typeattribute f x;", api.OK, ""}, {"typeattribute x x;", api.ErrKind, "x"}, {"typeattribute e y;", api.ErrScope, "e"}, {"typeattribute a x, b;", api.ErrKind, "b"}, {"typeattribute k x;", api.ErrScope, "k"},
		{"role l types { a - x };", api.OK, ""}, {"role l types { f - y };", api.ErrScope, "y"}, {"role l types k;", api.ErrScope, "k"}, {"role l types *;", api.OK, ""}, {"permissive { x - e };", api.ErrScope, "e"}, {"permissive { x - f };", api.OK, ""},
		{"roleallow k { k - object_r };", api.OK, ""}, {"roleallow l m;", api.ErrScope, "l"}, {"roleallow k { - m };", api.ErrScope, "m"}, {"roleallow a k;", api.ErrScope, "a"},
		{"role_transition k { a x } : { c - d } object_r;", api.OK, ""}, {"role_transition e e : e e;", api.ErrScope, "e"}, {"role_transition k k : c k;", api.ErrScope, "k"}, {"role_transition k a : { c - k } k;", api.ErrScope, "k"}, {"role_transition k a : c a;", api.ErrScope, "a"},
		{"user w roles { k object_r } level s:g.h range s-t:g;", api.OK, ""}, {"user w roles { l } level s range s;", api.ErrScope, "l"}, {"user w roles { k } level g range s;", api.ErrScope, "g"}, {"user w roles { k } level s:s range s;", api.ErrScope, "s"}, {"user w roles { k } level s:g.i range s;", api.ErrScope, "i"}, {"user w roles { k } level s range s:i;", api.ErrScope, "i"}, {"user w roles { k } level s range s-h;", api.ErrScope, "h"}, {"user w roles { k } level s range s-t:g,i;", api.ErrScope, "i"},
		{"allow { a x } { f self } : { c - d } { p q };", api.OK, ""}, {"allow a y : e r;", api.ErrScope, "y"}, {"allow a b : e r;", api.ErrScope, "e"}, {"allow a b : c { p r e };", api.ErrPerm, "r"}, {"allow a b : { c - d } q;", api.OK, ""}, {"allow a b : { c d } q;", api.ErrPerm, "q"}, {"allow a b : { d - c } { p - q };", api.ErrPerm, "q"}, {"allow a b : { c e } r;", api.ErrPerm, "r"}, {"allow a b : { c - e } r;", api.ErrPerm, "r"}, {"allow a b : { c - e } q;", api.ErrScope, "e"}, {"allow a b : a p;", api.ErrScope, "a"}, {"allow * * : * r;", api.OK, ""}, {"neverallow c a : c p;", api.ErrScope, "c"}, {"dontaudit a b : { - c } r;", api.OK, ""}, {"dontaudit a b : { - e } p;", api.ErrScope, "e"},
		{"type_transition a x : c f;", api.OK, ""}, {"type_transition a x : c x;", api.ErrKind, "x"}, {"type_change a x : c e;", api.ErrScope, "e"}, {"type_member { - y } x : c a;", api.ErrScope, "y"}, {"type_member x x : e e;", api.ErrScope, "e"},
		{"range_transition a b : c s:g-t;", api.OK, ""}, {"range_transition a b : c g;", api.ErrScope, "g"}, {"range_transition a b : e s;", api.ErrScope, "e"},
		{"constrain c { p q } u1 in u && r1 in { object_r k } || t1 in { x f };", api.OK, ""}, {"constrain c r u1 in e;", api.ErrPerm, "r"}, {"constrain c p u1 in { u k };", api.ErrScope, "k"}, {"constrain c p r1 in u;", api.ErrScope, "u"}, {"constrain c p t2 in y;", api.ErrScope, "y"}, {"constrain c p l1 in y;", api.OK, ""}, {"constrain e p t2 in y;", api.ErrScope, "e"},
		{"validatetrans { c d } u3 in u;", api.OK, ""}, {"validatetrans c u3 in e;", api.ErrScope, "e"}, {"validatetrans { c e } u1 == u2;", api.ErrScope, "e"},
		{"sid n u:k:a:s-t:g.h;", api.OK, ""}, {"sid n u:object_r:f:s;", api.OK, ""}, {"sid n u:k:x:s;", api.ErrKind, "x"}, {"sid n k:k:a:s;", api.ErrScope, "k"}, {"sid n u:u:a:s;", api.ErrScope, "u"}, {"filecon \"/\" any u:k:e:s;", api.ErrScope, "e"}, {"filecon \"/\" any u:k:a:s:g.e;", api.ErrScope, "e"},
		{"assert n noflow { a x } ~ f;", api.OK, ""}, {"assert n noflow e y;", api.ErrScope, "e"}, {"assert n separate a { - y };", api.ErrScope, "y"},
		{"if v { permissive a; }", api.OK, ""}, {"if !a { permissive y; }", api.ErrScope, "a"}, {"if v && w == v { permissive a; }", api.ErrScope, "w"},
	} {
		want := api.Fault{}
		if x.code != api.OK {
			want = fault(x.code, 2, 1, x.name)
		}
		checkFault(t, parsed(t, given+x.src), want)
		if x.code != api.OK {
			want.Pos.Line++
		}
		checkFault(t, parsed(t, given+"optional {\n"+x.src+" role z; }"), want) // what is visible outside is visible within
	}
	for src, want := range map[string]api.Fault{
		"require type e; permissive e;":                                 {},
		"require type a; permissive a;":                                 {},
		"require class e { p }; allow a a : e { p };":                   {},
		"require attribute e;\ntypeattribute e x;":                      fault(api.ErrKind, 3, 1, "e"),
		"require class c { r };\nallow a a : c r;":                      fault(api.ErrPerm, 3, 1, "r"), // the requirement is left out
		"optional {\nrequire class c { r };\nallow a a : c { r q };\n}": {},
	} {
		checkFault(t, parsed(t, given+src), want)
	}
}

// P10.4: the order of faults, and scopes.
func TestScopes(t *testing.T) {
	for _, x := range []struct {
		src  string
		want api.Fault
	}{
		{"require type a;\nallow a self : file read;", fault(api.ErrScope, 2, 1, "file")},
		{"require type a;\nrequire class file { write };\nallow a self : file read;", fault(api.ErrPerm, 3, 1, "read")},
		{"permissive a;\ntype a;", api.Fault{}},
		{"permissive a;\ntype b;\ntype b;", fault(api.ErrTwice, 3, 1, "b")},
		{"optional {\npermissive a;\n}\npermissive b;", fault(api.ErrScope, 2, 1, "a")},
		{"permissive b;\noptional {\npermissive a;\n}", fault(api.ErrScope, 1, 1, "b")},
		{"optional {\npermissive a;\n}\ntype b;\nattribute b;", fault(api.ErrKind, 5, 1, "b")},
		{"type a;\noptional {\ntype a;\n}", fault(api.ErrTwice, 3, 1, "a")},
		{"type a;\noptional {\nrequire type a; permissive a;\n}", api.Fault{}},
		{"require type a;\noptional {\ntype a;\n}", api.Fault{}},
		{"require type a;\noptional {\nattribute a;\n}", fault(api.ErrKind, 3, 1, "a")},
		{"attribute a;\noptional {\ntype b; require type a;\n}", fault(api.ErrKind, 3, 9, "a")},
		{"type b alias { a };\noptional {\ntype c alias { d a };\n}", fault(api.ErrTwice, 3, 1, "a")},
		{"type b alias { a };\noptional {\ntype e;\n} else {\ntype c alias { d };\nattribute a;\n}", fault(api.ErrKind, 6, 1, "a")},
		{"optional {\ntype a;\n} else {\ntype a; permissive a;\n}\noptional {\nattribute a;\n}", api.Fault{}},
		{"optional {\ntype a;\n} else {\npermissive a;\n}", fault(api.ErrScope, 4, 1, "a")},
		{"optional {\ntype a;\n}\npermissive a;", fault(api.ErrScope, 4, 1, "a")},
		{"optional {\ntype a;\n}\noptional {\npermissive a;\n}", fault(api.ErrScope, 5, 1, "a")},
		{"optional {\nrequire type a;\noptional {\nrole r;\n}\npermissive a;\n}\ntype a;", api.Fault{}},
		{"type a;\noptional {\ntype b;\noptional {\ntype c;\nallow a b : c p;\n}\n}", fault(api.ErrScope, 6, 1, "c")},
		{"type a;\noptional {\ntype b;\noptional {\ntype a;\n}\n}", fault(api.ErrTwice, 5, 1, "a")},
		{"type a;\noptional {\ntype b;\noptional {\ntype c;\n} else {\ntype b;\n}\n}", fault(api.ErrTwice, 7, 1, "b")},
		{"type a;\noptional {\ntype c;\ntype b;\ntype b;\ntype a;\n}", fault(api.ErrTwice, 5, 1, "b")},
		{"type a; type b;\noptional {\npermissive z;\ntype b;\ntype a;\n}", fault(api.ErrTwice, 4, 1, "b")},
		{"attribute a; type b;\noptional {\nrequire type b;\ntype b;\nrequire type a;\n}", fault(api.ErrTwice, 4, 1, "b")},
		{"attribute a; type b;\noptional {\nrequire type a;\ntype b;\ntype a;\n}", fault(api.ErrTwice, 4, 1, "b")},
		{"optional {\nrole r;\nrole object_r;\n}", fault(api.ErrTwice, 3, 1, "object_r")},
		{"optional {\nrequire role object_r; roleallow object_r object_r;\n}", api.Fault{}},
		{"type a; class c { p };\noptional {\nrequire class c { q };\nallow a a : c { p q };\noptional {\nrequire class c { r };\nallow a a : c { r q p };\n}\nallow a a : c r;\n}", fault(api.ErrPerm, 9, 1, "r")},
		{"type a; class c { p };\noptional {\nrequire class c { q };\n} else {\nallow a a : c { p q };\n}", fault(api.ErrPerm, 5, 1, "q")},
		{"type a; require class c { p };\noptional {\nclass c { q };\nallow a a : c { p q };\n}\nallow a a : c p;\nallow a a : c q;", fault(api.ErrPerm, 7, 1, "q")},
		{"type a; require class c { p };\nrequire class c { q };\nallow a a : c { q p };", api.Fault{}},
		{"type a; require class d { q };\nrequire class c { p };\nallow a a : c { p q };", fault(api.ErrPerm, 3, 1, "q")},
	} {
		checkFault(t, parsed(t, x.src), x.want)
	}
}

// P10.4: the uses of an if statement are those of its blocks, each once. Optional blocks within it are not examined.
func TestCheckOfIf(t *testing.T) {
	const given = "type a; class c { p }; class d { p }; bool v true;\n"
	for src, want := range map[string]api.Fault{
		"if v {\nallow a a : c p;\n} else {\nallow a a : d p;\n}":                                  {},
		"if v {\nallow a b : c p;\n}":                                                              fault(api.ErrScope, 3, 1, "b"),
		"if v {\nallow a a : c p;\n} else {\nallow a a : c p; allow a a : e p;\n}":                 fault(api.ErrScope, 5, 18, "e"),
		"if w {\nallow a b : c p;\n}":                                                              fault(api.ErrScope, 2, 1, "w"),
		"if v {\nallow a a : c p;\nallow a b : d p;\nallow a a : c { p q };\n}":                    fault(api.ErrPerm, 3, 1, "q"),
		"if v {\nallow a a : c p;\nif v {\nallow a a : d { q r };\n}\nallow a a : c { r p q };\n}": fault(api.ErrPerm, 3, 1, "r"),
		"if v {\ntype_transition a a : c a;\nallow a a : d p;\nallow a a : c { q r };\n}":          fault(api.ErrPerm, 3, 1, "q"),
		"if v {\nallow a a : c q;\nallow a a : c r;\n}":                                            fault(api.ErrPerm, 3, 1, "q"),
		"if v {\ntype b;\npermissive b;\n}":                                                        fault(api.ErrScope, 4, 1, "b"),
		"if v {\nrequire type b;\npermissive b;\n}":                                                fault(api.ErrScope, 4, 1, "b"),
		"if v {\noptional {\npermissive b;\n}\n}":                                                  {},
		"if v {\ntype a;\noptional {\ntype a; type a;\n}\n}":                                       {},
		"optional {\nif v {\npermissive b;\n}\n}":                                                  fault(api.ErrScope, 4, 1, "b"),
		"if v {\npermissive a;\n}\npermissive b;":                                                  fault(api.ErrScope, 5, 1, "b"),
	} {
		checkFault(t, parsed(t, given+src), want)
	}
}

// P10.4: statements that Parse cannot return.
func TestCheckOfOddStatements(t *testing.T) {
	at := api.Pos{Line: 3, Col: 4}
	names := func(l ...string) api.NameSet { return api.NameSet{Names: l} }
	list := func(l ...api.Stmt) []api.Stmt { return l }
	bad := api.Stmt{Kind: api.StmtPermissive, Pos: at, Source: names("b")}
	for _, kind := range []int{-1, 0, api.StmtRequire, api.StmtRole, api.StmtRule, api.StmtAssert + 1} {
		checkFault(t, list(api.Stmt{Kind: kind, Name: "r", Then: list(bad), Else: list(bad)}), api.Fault{})
	}
	checkFault(t, list(api.Stmt{Kind: api.StmtOptional, Cond: api.Expr{Op: api.ExprName, Names: []string{"v"}}, Source: names("b"), List: []string{"b"}}), api.Fault{})
	checkFault(t, list(api.Stmt{Kind: api.StmtOptional, Else: list(bad)}), fault(api.ErrScope, 3, 4, "b"))
	checkFault(t, list(api.Stmt{Kind: api.StmtOptional, Else: list(api.Stmt{Kind: api.StmtType, Name: "b"}, bad)}), api.Fault{})
	checkFault(t, list(api.Stmt{Kind: api.StmtClass, Name: "c"}, api.Stmt{Kind: api.StmtRule, Pos: at, Class: names("c"), Perms: names("", "p")}), fault(api.ErrPerm, 3, 4, "p"))
	checkFault(t, list(api.Stmt{Kind: api.StmtClass, Name: "c"}, api.Stmt{Kind: api.StmtRule, Class: names("c", ""), Perms: names("", "")}), api.Fault{})
	checkFault(t, list(api.Stmt{Kind: api.StmtIf}, api.Stmt{Kind: api.StmtSid}, api.Stmt{Kind: api.StmtUser}, api.Stmt{Kind: api.StmtRoleTrans, Source: names("object_r"), Result: "object_r"}), api.Fault{})
	if f := scope.Check(api.Module{Name: "type", Version: -1}); f != (api.Fault{}) {
		t.Errorf("Check of nothing: got %v", f)
	}
}

// P10.4: a rule with many classes and permissions has few names, but many permissions of classes.
func TestCheckOfManyClasses(t *testing.T) {
	const many = 1 << 15
	var classes, perms []string
	l := []api.Stmt{{Kind: api.StmtRule}}
	for i := range many {
		classes, perms = append(classes, "c"+strconv.Itoa(i)), append(perms, "p"+strconv.Itoa(i))
		l = append(l, api.Stmt{Kind: api.StmtClass, Name: classes[i], List: []string{"p0", "q"}})
	}
	l[0].Class.Names, l[0].Perms.Names = classes, perms[1:]
	checkFault(t, l, api.Fault{Code: api.ErrPerm, Name: "p1"})
	l[0].Perms.Names = []string{"p0"}
	checkFault(t, l, api.Fault{})
	l[0].Class.Names = append(classes, "d")
	checkFault(t, l, api.Fault{Code: api.ErrScope, Name: "d"})
	l[1].List = perms
	l[0].Class.Names, l[0].Perms.Names = classes[:1], append(slices.Clone(perms), "q")
	checkFault(t, l, api.Fault{Code: api.ErrPerm, Name: "q"})
}
