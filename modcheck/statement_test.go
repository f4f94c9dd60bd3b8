package modcheck_test

import (
	"slices"
	"strings"
	"testing"

	"accesscontrol/api"
	"accesscontrol/modcheck"
)

// samples are sources of statements of all kinds.
func samples() []string {
	return []string{
		"class c { p };", "type a;", "attribute x;", "typeattribute a x;", "role k;", "roleallow k k;", "role_transition k a : c k;", "user u roles { k } level s range s;", "bool v true;", "sensitivity s;", "category g;",
		"allow a a : c p;", "auditallow a a : c p;", "dontaudit a a : c p;", "neverallow a a : c p;", "type_transition a a : c a;", "type_transition a a : c a \"n\";", "type_change a a : c a;", "type_member a a : c a;", "range_transition a a : c s;",
		"constrain c p u1 == u2;", "validatetrans c u1 == u2;", "if v { allow a a : c p; }", "optional { type a; }", "require type a;", "require class c { p };", "sid n u:k:a:s;", "filecon \"/\" any u:k:a:s;", "permissive a;", "assert n noflow a a;",
	}
}

// P11.1: what may stand in a block.
func TestPlacement(t *testing.T) {
	within := strings.Fields("allow auditallow dontaudit type_transition type_change type_member")
	for _, src := range samples() {
		s := parsed(t, src)[0]
		want := api.ErrKind
		if slices.Contains(within, strings.Fields(src)[0]) {
			want = api.OK
		}
		for block := -20; block < 40; block++ {
			code := api.ErrArg
			switch block {
			case 0, api.StmtOptional:
				code = api.OK
			case api.StmtIf:
				code = want
			}
			if got := modcheck.Placement(s, block); got != code {
				t.Errorf("Placement(%s, %d): got %v, want %v", src, block, got, code)
			}
		}
	}
}

// P11.1: statements that Parse cannot return.
func TestPlacementOfOddStatements(t *testing.T) {
	for _, x := range []struct {
		s    api.Stmt
		code api.Errno
	}{
		{api.Stmt{}, api.ErrKind}, {api.Stmt{Kind: -1}, api.ErrKind}, {api.Stmt{Kind: api.StmtAssert + 1}, api.ErrKind}, {api.Stmt{Op: api.RuleAllow}, api.ErrKind},
		{api.Stmt{Kind: api.StmtRule}, api.OK}, {api.Stmt{Kind: api.StmtRule, Op: -1}, api.OK}, {api.Stmt{Kind: api.StmtRule, Op: api.RuleNeverAllow}, api.ErrKind}, {api.Stmt{Kind: api.StmtTrans, Op: api.RuleNeverAllow}, api.OK}, {api.Stmt{Kind: api.StmtTrans}, api.OK},
	} {
		if got := modcheck.Placement(x.s, api.StmtIf); got != x.code {
			t.Errorf("Placement(%v, StmtIf): got %v, want %v", x.s, got, x.code)
		}
		if got := modcheck.Placement(x.s, api.StmtOptional); got != api.OK {
			t.Errorf("Placement(%v, StmtOptional): got %v", x.s, got)
		}
		if got := modcheck.Placement(x.s, api.StmtRule); got != api.ErrArg {
			t.Errorf("Placement(%v, StmtRule): got %v", x.s, got)
		}
	}
}

// P11.2, 1: the structure of the statement, with its blocks.
func TestStructure(t *testing.T) {
	for _, src := range samples() {
		checkStatement(t, parsed(t, src)[0], nil, api.OK, "")
	}
	a := api.Stmt{Kind: api.StmtType, Name: "a"}
	block := func(l ...api.Stmt) api.Stmt { return api.Stmt{Kind: api.StmtOptional, Then: l} }
	for _, s := range []api.Stmt{
		{}, {Kind: -1}, {Kind: api.StmtAssert + 1}, {Kind: api.StmtType}, {Kind: api.StmtType, Name: "type"}, {Kind: api.StmtType, Name: "a", Value: true}, {Kind: api.StmtOptional}, {Kind: api.StmtOptional, Else: []api.Stmt{a}}, {Kind: api.StmtClass, Name: "c"},
		block(a, api.Stmt{}), {Kind: api.StmtOptional, Then: []api.Stmt{a}, Else: []api.Stmt{{Kind: api.StmtRole}}}, {Kind: api.StmtRule, Op: 9},
		{Kind: api.StmtClass, Name: "c", List: []string{"p", "p", ""}}, {Kind: api.StmtClass, Name: "c", List: append(words("p", 40), "1")}, {Kind: api.StmtUser, Name: "u", List: []string{"object_r"}},
	} {
		checkStatement(t, s, nil, api.ErrArg, "")
	}
	checkStatement(t, block(slices.Repeat([]api.Stmt{a}, api.MaxStmts-1)...), nil, api.OK, "")
	checkStatement(t, block(slices.Repeat([]api.Stmt{a}, api.MaxStmts)...), nil, api.ErrLong, "")
	deep := a
	for range api.MaxNest {
		deep = block(deep)
	}
	checkStatement(t, deep, nil, api.OK, "")
	checkStatement(t, block(deep), nil, api.ErrLong, "")
	for range 60000 {
		deep = block(deep)
	}
	checkStatement(t, deep, nil, api.ErrLong, "")
}

// P11.2: the statements in the blocks of a statement are not examined.
func TestBlocksOfStatement(t *testing.T) {
	l := symbols(t, "sensitivity s; sensitivity t;")
	for _, src := range []string{"if v { neverallow a b : c p; }", "if v { attribute x; } else { roleallow k object_r; }", "optional { class c { p p }; }", "optional { type a; } else { roleallow object_r object_r; constrain c p l1 == u1; }", "optional { range_transition a b : c t-s; }"} {
		checkStatement(t, parsed(t, src)[0], l, api.OK, "")
	}
}

// P11.2, 2: permissions of classes.
func TestPermissions(t *testing.T) {
	l := words("p", api.MaxPerms+1)
	class := func(l ...string) api.Stmt { return api.Stmt{Kind: api.StmtClass, Name: "c", List: l} }
	for _, x := range []struct {
		s    api.Stmt
		code api.Errno
		name string
	}{
		{class("a"), api.OK, ""}, {class("a", "b", "A"), api.OK, ""}, {class(l[:api.MaxPerms]...), api.OK, ""}, {class(l...), api.ErrLong, ""}, {class(slices.Repeat([]string{"a"}, api.MaxPerms+1)...), api.ErrLong, ""},
		{class("a", "b", "a"), api.ErrTwice, "a"}, {class("a", "b", "b", "a"), api.ErrTwice, "b"}, {class("a", "b", "c", "a", "b"), api.ErrTwice, "a"}, {class("object_r", "object_r"), api.ErrTwice, "object_r"}, {class(slices.Concat(l[:api.MaxPerms-1], l[:1])...), api.ErrTwice, l[0]},
	} {
		checkStatement(t, x.s, nil, x.code, x.name)
		x.s.Kind, x.s.Op = api.StmtRequire, api.SymClass
		checkStatement(t, x.s, nil, api.OK, "") // a requirement of a class is none
	}
	checkStatement(t, api.Stmt{Kind: api.StmtType, Name: "a", List: []string{"x", "x"}, Aliases: []string{"b", "b"}}, nil, api.OK, "")
}

// P11.2, 3: the role of objects.
func TestObjectRole(t *testing.T) {
	for src, code := range map[string]api.Errno{
		"user u roles { object_r } level s range s;":             api.ErrKind,
		"user u roles { k l object_r k } level s range s;":       api.ErrKind,
		"user object_r roles { k } level s range s;":             api.OK,
		"user u roles { k } level object_r range s:object_r;":    api.OK,
		"roleallow object_r k;":                                  api.ErrKind,
		"roleallow k object_r;":                                  api.ErrKind,
		"roleallow { k object_r } k;":                            api.ErrKind,
		"roleallow { * - k - object_r } k;":                      api.ErrKind,
		"roleallow k { k l - object_r };":                        api.ErrKind,
		"roleallow k ~ object_r;":                                api.ErrKind,
		"roleallow * ~ k;":                                       api.OK,
		"role_transition object_r a : c k;":                      api.ErrKind,
		"role_transition { k object_r } a : c k;":                api.ErrKind,
		"role_transition { k - object_r } a : c k;":              api.ErrKind,
		"role_transition k a : c object_r;":                      api.ErrKind,
		"role_transition k { object_r - object_r } : c k;":       api.OK,
		"role_transition k a : { object_r - object_r } k;":       api.OK,
		"role object_r types { object_r - object_r };":           api.OK,
		"require role object_r;":                                 api.OK,
		"sid object_r object_r:object_r:object_r:object_r;":      api.OK,
		"filecon \"/\" any u:object_r:a:s;":                      api.OK,
		"allow object_r object_r : object_r object_r;":           api.OK,
		"constrain object_r object_r r1 in object_r;":            api.OK,
		"permissive object_r;":                                   api.OK,
		"assert object_r separate object_r { - object_r };":      api.OK,
		"class object_r { object_r };":                           api.OK,
		"range_transition object_r object_r : object_r s;":       api.OK,
		"type_transition object_r object_r : object_r object_r;": api.OK,
	} {
		name := ""
		if code != api.OK {
			name = api.ObjectRole
		}
		checkStatement(t, parsed(t, src)[0], nil, code, name)
	}
}

// levels are symbols with three sensitivities and three categories, of which one each is only required.
const levels = "sensitivity s; sensitivity t; category g; category h; category i; require sensitivity v; require category w; type a; bool s true;"

// P11.2, 4: levels of users.
func TestLevelsOfUser(t *testing.T) {
	l := symbols(t, levels)
	for text, code := range map[string]api.Errno{
		"s range s": api.OK, "t range s-t": api.OK, "s range s-t": api.OK, "s:g range s-t:g.i": api.OK, "t:g,i range s:g-t:g.i": api.OK, "s:g.g range s:g.g": api.OK, "s range s-s:g": api.OK, "s:i,g range s:g-s:i,g": api.OK,
		"s range t": api.ErrLevel, "t range s": api.ErrLevel, "s:h range s-t:g": api.ErrLevel, "s range s:g-t:g": api.ErrLevel, "t:g.h range s-t:g": api.ErrLevel, "t range s-s": api.ErrLevel, "s:g range s": api.ErrLevel, "s range s:g": api.ErrLevel,
		"s:h.g range s": api.ErrLevel, "s:h.g range s-t:g.i": api.ErrLevel, "s range s:h.g": api.ErrLevel, "s range s-t:h.g": api.ErrLevel, "s range t-s": api.ErrLevel, "s range s:g-s": api.ErrLevel, "t:g range t:g-t:h": api.ErrLevel,
		// A level that is not known is not examined, but what is known is.
		"v range s": api.OK, "s range v": api.OK, "z range s": api.OK, "s:w range s": api.OK, "s:h.w range s": api.OK, "s:w.h range s": api.OK, "s:h.g,w range s": api.OK, "s:w,h.g range s": api.OK, "v:h.g range s": api.OK, "s:z range s": api.OK,
		"s range v-t": api.OK, "s range t-v": api.OK, "s range t:w-s": api.OK, "s range t-s:w": api.OK, "v range s-t": api.OK, "t range s-s:w": api.OK, "s range v-t:g": api.OK, "s range s-v:h.g": api.OK, "s range v:h.g-s": api.OK, "g range s": api.OK, "s:s range s": api.OK, "s range s:g.t": api.OK, "a range a:a": api.OK,
		"v range t-s": api.ErrLevel, "s:w range s-t:h.g": api.ErrLevel, "s:h.g range v": api.ErrLevel, "s range v-t:h.g": api.ErrLevel, "s range t:h.g-v": api.ErrLevel, "v range v-s:i.h": api.ErrLevel, "v range s:i.h-v": api.ErrLevel, "s:h.g range z:w-s": api.ErrLevel,
	} {
		checkStatement(t, parsed(t, "user u roles { k } level "+text+";")[0], l, code, "")
		checkStatement(t, parsed(t, "user u roles { k } level "+text+";")[0], nil, api.OK, "")
		checkStatement(t, parsed(t, "user u roles { k object_r } level "+text+";")[0], l, api.ErrKind, "object_r")
	}
}

// P11.2, 4: ranges of other statements.
func TestRanges(t *testing.T) {
	l := symbols(t, levels)
	for text, code := range map[string]api.Errno{
		"s": api.OK, "t:g.i": api.OK, "s-t": api.OK, "s-s": api.OK, "s:g-t:g,h": api.OK, "v": api.OK, "v-s": api.OK, "t-v": api.OK, "t:w-s": api.OK, "s:w.g": api.OK, "s:h.g,w": api.OK, "v:h.g": api.OK,
		"t-s": api.ErrLevel, "s:g-t": api.ErrLevel, "s:g-t:h": api.ErrLevel, "s:h.g": api.ErrLevel, "s:g,i.h": api.ErrLevel, "s-t:h.g": api.ErrLevel, "s:h.g-t": api.ErrLevel, "v-t:h.g": api.ErrLevel, "s:h.g-v": api.ErrLevel, "s:h.g-t:w": api.ErrLevel,
	} {
		for _, src := range []string{"range_transition a b : c " + text + ";", "sid n u:k:a:" + text + ";", "filecon \"/\" any u:k:a:" + text + ";"} {
			checkStatement(t, parsed(t, src)[0], l, code, "")
			checkStatement(t, parsed(t, src)[0], nil, api.OK, "")
		}
	}
}

// P11.2, 4: the names that are visible count in their order, and only if they are proper and declared.
func TestKnownLevels(t *testing.T) {
	named := func(kind int, required bool, l ...string) []api.Symbol {
		var symbols []api.Symbol
		for _, name := range l {
			symbols = append(symbols, api.Symbol{Kind: kind, Name: name, Required: required})
		}
		return symbols
	}
	sens := func(l ...string) []api.Symbol { return named(api.SymSensitivity, false, l...) }
	cats := func(l ...string) []api.Symbol { return named(api.SymCategory, false, l...) }
	wrong, span := parsed(t, "sid n u:k:a:t-s;")[0], parsed(t, "sid n u:k:a:s:h.g;")[0]
	known, pair := sens("s", "t"), cats("g", "h")
	for _, x := range []struct {
		l          []api.Symbol
		wrong, bad api.Errno // for both statements
	}{
		{nil, api.OK, api.OK}, {known, api.ErrLevel, api.OK}, {sens("t", "s"), api.OK, api.OK}, {slices.Concat(known, pair), api.ErrLevel, api.ErrLevel}, {slices.Concat(pair, known), api.ErrLevel, api.ErrLevel}, {slices.Concat(known, cats("h", "g")), api.ErrLevel, api.OK}, {slices.Concat(known[:1], pair), api.OK, api.ErrLevel}, {slices.Concat(known[1:], pair), api.OK, api.OK},
		{named(api.SymSensitivity, true, "s", "t"), api.OK, api.OK}, {slices.Concat(named(api.SymSensitivity, true, "t"), known, named(api.SymSensitivity, true, "s")), api.ErrLevel, api.OK}, {named(api.SymCategory, false, "s", "t"), api.OK, api.OK}, {named(api.SymUser, false, "s", "t"), api.OK, api.OK}, {slices.Concat(known, named(api.SymCategory, true, "g"), cats("h")), api.ErrLevel, api.OK},
		{sens("s", "t", "s"), api.OK, api.OK}, {sens("s", "t", "u", "u"), api.OK, api.OK}, {slices.Concat(known, cats("g", "h", "g")), api.OK, api.OK}, {slices.Concat(known, cats("s", "t")), api.ErrLevel, api.OK}, {slices.Concat(known, cats("t", "g", "s", "h")), api.ErrLevel, api.ErrLevel},
		{sens("s", "t", ""), api.OK, api.OK}, {sens("s", "t", "a-b"), api.OK, api.OK}, {sens("s", "t", "7"), api.ErrLevel, api.OK}, {sens("s", "t", "type"), api.ErrLevel, api.OK}, {sens("s", "t", strings.Repeat("u", api.MaxName)), api.ErrLevel, api.OK}, {sens("s", "t", strings.Repeat("u", api.MaxName+1)), api.OK, api.OK}, {slices.Concat(known, cats("g", "h", "ö")), api.OK, api.OK},
		{slices.Concat(known, sens(words("u", api.MaxSens-2)...)), api.ErrLevel, api.OK}, {slices.Concat(known, sens(words("u", api.MaxSens-1)...)), api.OK, api.OK}, {slices.Concat(known, pair, cats(words("u", api.MaxCats-2)...)), api.ErrLevel, api.ErrLevel}, {slices.Concat(known, pair, cats(words("u", api.MaxCats-1)...)), api.OK, api.OK},
	} {
		checkStatement(t, wrong, x.l, x.wrong, "")
		checkStatement(t, span, x.l, x.bad, "")
	}
}

// P11.2, 5: expressions of constraints.
func TestExpressions(t *testing.T) {
	for text, code := range map[string]api.Errno{
		"u1 == u2": api.OK, "r1 != r2": api.OK, "t1 == t1": api.OK, "l1 == h2": api.OK, "h1 dom l2": api.OK, "h1 domby h2": api.OK, "l1 incomp l1": api.OK, "l2 != h1": api.OK, "u1 in u": api.OK, "r2 in { k l }": api.OK, "t1 in { a x }": api.OK, "! ( u1 == u2 ) && ( l1 dom l2 || t2 in a )": api.OK,
		"u1 == r1": api.ErrKind, "u1 != t2": api.ErrKind, "r1 == t1": api.ErrKind, "l1 == u2": api.ErrKind, "t2 == l1": api.ErrKind, "h1 dom r2": api.ErrKind, "u1 == h1": api.ErrKind, "u1 dom u2": api.ErrKind, "r1 domby r2": api.ErrKind, "t1 incomp t2": api.ErrKind, "t1 dom u2": api.ErrKind, "l1 in a": api.ErrKind, "h2 in { a b }": api.ErrKind,
		"! u1 == r2": api.ErrKind, "! ! u1 dom u2": api.ErrKind, "u1 == u2 && u1 == r2": api.ErrKind, "h1 in a || u1 == u2": api.ErrKind, "u1 == u2 && ( r1 == r2 || ! ( t1 == t2 && l1 == t1 ) )": api.ErrKind,
	} {
		for _, head := range []string{"constrain c p ", "validatetrans c "} {
			checkStatement(t, parsed(t, head+text+";")[0], nil, code, "")
		}
	}
	for text, code := range map[string]api.Errno{"u3 == u1": api.OK, "l3 domby h2 && t3 in a": api.OK, "h3 incomp l3": api.OK, "r3 in k": api.OK, "u3 == r3": api.ErrKind, "t3 dom t1": api.ErrKind, "t3 != h3": api.ErrKind, "h3 in a": api.ErrKind, "l3 in a": api.ErrKind} {
		checkStatement(t, parsed(t, "validatetrans c "+text+";")[0], nil, code, "")
	}
	bad := api.Stmt{Kind: api.StmtConstrain, Class: api.NameSet{All: true}, Perms: api.NameSet{All: true}, Cond: api.Expr{Op: api.ExprCompare, A: -1}}
	checkStatement(t, bad, nil, api.ErrArg, "")
	bad.Cond = api.Expr{Op: api.ExprCompare, A: 10, B: 11}
	checkStatement(t, bad, nil, api.ErrArg, "")
	bad.Kind, bad.Perms = api.StmtValidate, api.NameSet{}
	checkStatement(t, bad, nil, api.ErrKind, "")
}
