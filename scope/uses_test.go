package scope_test

import (
	"slices"
	"testing"

	"accesscontrol/api"
)

// P10.3: what each kind of statement uses, in its order.
func TestUsesOfStatements(t *testing.T) {
	for src, want := range map[string]string{
		"":                              "",
		"class c { p };":                "",
		"type a;":                       "",
		"type a alias { b }, y, x, y;":  "attribute y@1, attribute x@1",
		"attribute x; bool b true;":     "",
		"sensitivity s; category c;":    "",
		"require type a;":               "",
		"require class c { p };":        "",
		"typeattribute a y, x;":         "type a@1, attribute y@1, attribute x@1",
		"role r;":                       "",
		"role r types { a - b x - y };": "any a@1, any x@1, any b@1, any y@1",
		"roleallow { r - q } { s - t r object_r };":                   "role r@1, role q@1, role s@1, role t@1",
		"role_transition { r - q } { a - b } : c s;":                  "role r@1, role q@1, any a@1, any b@1, class c@1, role s@1",
		"role_transition r * : { c - d } object_r;":                   "role r@1, class c@1, class d@1",
		"user u roles { r object_r q } level s range t;":              "role r@1, role q@1, sensitivity s@1, sensitivity t@1",
		"user u roles { r } level s:b.a,c range s1:d-s2:e.f,g,a;":     "role r@1, sensitivity s@1, category b@1, category a@1, category c@1, sensitivity s1@1, category d@1, sensitivity s2@1, category e@1, category f@1, category g@1",
		"allow { b - a } { d - c self } : { f - e } { q p - r };":     "any b@1, any a@1, any d@1, any c@1, class f{q p r}@1, class e@1",
		"auditallow ~ a * : c ~ p;":                                   "any a@1, class c{p}@1",
		"dontaudit * self : * *;":                                     "",
		"dontaudit a a : * p;":                                        "any a@1",
		"neverallow a b : { d c d } { - q p q };":                     "any a@1, any b@1, class d{p q}@1, class c{p q}@1",
		"allow a a : { c - c } p; ":                                   "any a@1, class c{p}@1",
		"type_transition { a - b } c : { d - e } f \"g\";":            "any a@1, any b@1, any c@1, class d@1, class e@1, type f@1",
		"type_change a a : a a;":                                      "any a@1, class a@1, type a@1",
		"type_member * b : c d;":                                      "any b@1, class c@1, type d@1",
		"range_transition { a - b } { c - d } : e s:g-t:h.i;":         "any a@1, any b@1, any c@1, any d@1, class e@1, sensitivity s@1, category g@1, sensitivity t@1, category h@1, category i@1",
		"constrain { c - d } { p - q } u1 == u2;":                     "class c{p q}@1, class d@1",
		"constrain c p u1 in u || !(r2 in { r q }) && t1 in { a x };": "class c{p}@1, user u@1, role r@1, role q@1, any a@1, any x@1",
		"constrain c p l1 in a && h2 in b;":                           "class c{p}@1",
		"constrain c p r1 in { object_r r } || u1 in object_r;":       "class c{p}@1, role r@1, user object_r@1",
		"validatetrans { c - d } u3 in u && r3 in r || t3 in a;":      "class c@1, class d@1, user u@1, role r@1, any a@1",
		"sid k u:r:t:s;":                                              "user u@1, role r@1, type t@1, sensitivity s@1",
		"sid k u:object_r:object_r:s:c-t:d.e;":                        "user u@1, type object_r@1, sensitivity s@1, category c@1, sensitivity t@1, category d@1, category e@1",
		"filecon \"/\" link u:r:t:s:a,b.c;":                           "user u@1, role r@1, type t@1, sensitivity s@1, category a@1, category b@1, category c@1",
		"permissive ~ { a - x };":                                     "any a@1, any x@1",
		"assert n noflow { b - a } { d - c };":                        "any b@1, any a@1, any d@1, any c@1",
		"assert n nodomain a b; assert m separate b * ;":              "any a@1, any b@1",
		"optional { allow a b : c p; } else { permissive a; }":        "",
		"if z && !y || z == w { permissive a; }":                      "bool z@1, bool y@1, bool w@1, any a@1:24",
		"if a { permissive c; optional { permissive d; } } else { permissive b; if e { permissive f; } }": "bool a@1, any c@1:8, any b@1:58, bool e@1:72, any f@1:79",
		"if a { optional { permissive c; } permissive d; } permissive c;":                                 "bool a@1, any d@1:35, any c@1:51",
	} {
		checkUses(t, parsed(t, src), want)
	}
}

// P10.3: each symbol once, with the position of the first statement that uses it, and with all permissions.
func TestUsesOfMany(t *testing.T) {
	for src, want := range map[string]string{
		"allow a b : c p;\nallow b d : c q;":                                                    "any a@1, any b@1, class c{p q}@1, any d@2",
		"allow a a : { c - d } p;\nallow a a : { d - c } { q p };\nallow a a : c { r q };":      "any a@1, class c{p r q}@1, class d{q p}@1",
		"type_transition a a : c a;\nallow a a : c p;\ntypeattribute a a;":                      "any a@1, class c{p}@1, type a@1, attribute a@3",
		"if b {\nallow a a : c p;\n} else {\nallow a a : c { q p };\n}\nallow a a : c { r q };": "bool b@1, any a@2, class c{p q r}@2",
		"optional {\nallow a a : c p;\n}\nallow a a : c q;":                                     "any a@4, class c{q}@4",
	} {
		checkUses(t, parsed(t, src), want)
	}
}

// P10.3: statements and expressions that Parse cannot return.
func TestUsesOfOddStatements(t *testing.T) {
	at := api.Pos{Line: 1, Col: 1}
	names := func(l ...string) api.NameSet { return api.NameSet{Names: l, Except: []string{"", "x"}} }
	odd := func(kind int) []api.Stmt {
		return []api.Stmt{{Kind: kind, Op: -1, Pos: at, Source: names("", "a"), Target: names("b", ""), Class: names("", "c"), Perms: names("p", ""), Then: []api.Stmt{{Kind: api.StmtPermissive, Source: names("z")}}}}
	}
	checkUses(t, odd(api.StmtRule), "any a@1, any x@1, any b@1, class c{p x}@1, class x@1")
	checkUses(t, odd(api.StmtTrans), "any a@1, any x@1, any b@1, class c@1, class x@1")
	checkUses(t, odd(api.StmtRangeTrans), "any a@1, any x@1, any b@1, class c@1, class x@1")
	checkUses(t, odd(api.StmtRoleTrans), "role a@1, role x@1, any b@1, any x@1, class c@1, class x@1")
	checkUses(t, odd(api.StmtAssert), "any a@1, any x@1, any b@1")
	checkUses(t, odd(api.StmtConstrain), "class c{p x}@1, class x@1")
	checkUses(t, odd(api.StmtValidate), "class c@1, class x@1")
	for _, kind := range []int{-1, 0, api.StmtClass, api.StmtType, api.StmtMember, api.StmtUser, api.StmtSid, api.StmtFile, api.StmtRequire, api.StmtOptional, api.StmtAssert + 1} {
		checkUses(t, odd(kind), "")
	}
	checkUses(t, []api.Stmt{{Kind: api.StmtIf, Pos: at, Else: []api.Stmt{{Kind: api.StmtType, Pos: at, Name: "a", List: []string{"", "x"}}}}}, "attribute x@1")
}

// P10.3: the names in an expression, an operator ahead of its operands.
func TestUsesOfExpressions(t *testing.T) {
	at := api.Pos{Line: 1, Col: 1}
	in := func(a int, l ...string) api.Expr { return api.Expr{Op: api.ExprIn, A: a, Names: l} }
	for _, x := range []struct {
		e    api.Expr
		want string
	}{
		{api.Expr{}, ""},
		{api.Expr{Op: api.ExprName, Names: []string{"b", "", "a"}}, "bool b@1, bool a@1"},
		{api.Expr{Op: api.ExprName, Names: []string{"b"}, Kids: []api.Expr{in(0, "a"), {Op: -1, Names: []string{"c"}, Kids: []api.Expr{{Op: api.ExprName, Names: []string{"d"}}}}}}, "bool b@1, user a@1, bool d@1"},
		{api.Expr{Op: api.ExprIn, A: 1, Names: []string{"b"}, Kids: []api.Expr{in(7, "a", "c"), in(5, "d")}}, "role b@1, any a@1, any c@1, user d@1"},
		{api.Expr{Op: api.ExprAnd, Names: []string{"b"}, Kids: []api.Expr{in(3, "a"), in(4, "a"), in(8, "a"), in(9, "a")}}, ""},
		{api.Expr{Op: api.ExprOr, Kids: []api.Expr{in(-1, "a"), in(-3, "b"), in(-4, "b"), in(-5, "c"), in(-1<<63, "d")}}, ""},
		{api.Expr{Op: api.ExprCompare, Names: []string{"b"}}, ""},
		{in(15, "a"), "user a@1"}, {in(5000001, "a"), "role a@1"}, {in(1<<63-1, "a", "object_r"), "any a@1, any object_r@1"}, {in(11, "object_r"), ""},
	} {
		want := x.want
		for _, kind := range []int{api.StmtIf, api.StmtConstrain, api.StmtValidate} {
			checkUses(t, []api.Stmt{{Kind: kind, Pos: at, Cond: x.e}}, want)
		}
		checkUses(t, []api.Stmt{{Kind: api.StmtRule, Pos: at, Cond: x.e}}, "")
	}
}

// deep returns statements in so many blocks of a kind, with a use at each level.
func deep(kind, levels int) []api.Stmt {
	var l []api.Stmt
	for i := range levels {
		s := api.Stmt{Kind: kind, Then: l}
		if i%3 == 0 {
			s = api.Stmt{Kind: kind, Else: l}
		}
		l = []api.Stmt{s, {Kind: api.StmtPermissive, Source: api.NameSet{Names: []string{"a"}}}}
	}
	return l
}

// P10.3, P10.4: many levels of blocks and of expressions, and many names.
func TestGreatStatements(t *testing.T) {
	const many = 1 << 16
	a := api.Stmt{Kind: api.StmtType, Pos: api.Pos{Line: 7, Col: 1}, Name: "a"}
	for _, kind := range []int{api.StmtIf, api.StmtOptional} {
		for _, levels := range []int{many - 1, many - 2, many - 3} {
			l := deep(kind, levels)
			checkUses(t, l, "any a@0:0")
			checkFault(t, l, api.Fault{Code: api.ErrScope, Name: "a"})
			checkFault(t, append(slices.Clone(l), a), api.Fault{})
		}
	}
	e := api.Expr{Op: api.ExprName, Names: []string{"b"}}
	for range many - 2 {
		e = api.Expr{Op: api.ExprNot, Kids: []api.Expr{e}}
	}
	checkUses(t, []api.Stmt{{Kind: api.StmtIf, Cond: e}}, "bool b@0:0")
	checkFault(t, []api.Stmt{{Kind: api.StmtIf, Cond: e}}, api.Fault{Code: api.ErrScope, Name: "b"})
	l := slices.Repeat([]api.Stmt{{Kind: api.StmtRequire, Op: api.SymType, Pos: api.Pos{Line: 7, Col: 1}, List: slices.Repeat([]string{"a"}, 10)}}, many)
	checkBlock(t, append(l, a), "type a@7", api.Fault{})
	checkFault(t, l, api.Fault{})
}
