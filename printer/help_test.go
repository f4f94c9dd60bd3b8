package printer_test

import (
	"fmt"
	"slices"
	"strings"
	"testing"

	"accesscontrol/api"
	"accesscontrol/printer"
)

// keywords are those of the document.
const keywords = "module class type alias typeattribute attribute role types roleallow role_transition user roles level range bool true false sensitivity category allow auditallow dontaudit neverallow type_transition type_change type_member range_transition constrain validatetrans if else optional require sid filecon permissive assert self in"

func names(l ...string) api.NameSet { return api.NameSet{Names: l} }

func sens(s string) api.LevelText { return api.LevelText{Sens: s} }

func compare(a, rel, b int) api.Expr {
	return api.Expr{Op: api.ExprCompare, A: a, Rel: rel, B: b}
}

func in(a int, l ...string) api.Expr { return api.Expr{Op: api.ExprIn, A: a, Names: l} }

func not(x api.Expr) api.Expr { return api.Expr{Op: api.ExprNot, Kids: []api.Expr{x}} }

func and(x, y api.Expr) api.Expr { return api.Expr{Op: api.ExprAnd, Kids: []api.Expr{x, y}} }

func or(x, y api.Expr) api.Expr { return api.Expr{Op: api.ExprOr, Kids: []api.Expr{x, y}} }

func boolean(s string) api.Expr { return api.Expr{Op: api.ExprName, Names: []string{s}} }

// sample is a well-formed statement with its source at the level 0.
type sample struct {
	s   api.Stmt
	src string
}

// named are samples of the statements that begin with their names.
func named() []sample {
	level := api.LevelText{Sens: "s0", Cats: []api.Span{{From: "c0", To: "c2"}, {From: "c4"}}}
	context := api.ContextText{User: "u", Role: "object_r", Type: "t", Range: api.RangeText{Low: sens("s0"), High: level}}
	return []sample{
		{api.Stmt{Kind: api.StmtClass, Name: "any", List: []string{"u1"}}, "class any { u1 };"},
		{api.Stmt{Kind: api.StmtClass, Name: "file", List: []string{"read", "write", "read"}}, "class file { read write read };"},
		{api.Stmt{Kind: api.StmtType, Name: "a"}, "type a;"},
		{api.Stmt{Kind: api.StmtType, Name: "a", Aliases: []string{"b"}}, "type a alias { b };"},
		{api.Stmt{Kind: api.StmtType, Name: "a", Aliases: []string{"b", "c"}, List: []string{"x", "y"}}, "type a alias { b c }, x, y;"},
		{api.Stmt{Kind: api.StmtType, Name: "a", List: []string{"x"}}, "type a, x;"},
		{api.Stmt{Kind: api.StmtAttribute, Name: "x"}, "attribute x;"},
		{api.Stmt{Kind: api.StmtMember, Name: "a", List: []string{"x"}}, "typeattribute a x;"},
		{api.Stmt{Kind: api.StmtMember, Name: "a", List: []string{"x", "y", "x"}}, "typeattribute a x, y, x;"},
		{api.Stmt{Kind: api.StmtRole, Name: "r"}, "role r;"},
		{api.Stmt{Kind: api.StmtRole, Name: "r", Source: names("a")}, "role r types a;"},
		{api.Stmt{Kind: api.StmtRole, Name: "r", Source: api.NameSet{Not: true, All: true, Except: []string{"a"}}}, "role r types ~ { * - a };"},
		{api.Stmt{Kind: api.StmtUser, Name: "u", List: []string{"r"}, Level: sens("s0"), Range: api.RangeText{Low: sens("s0")}}, "user u roles { r } level s0 range s0;"},
		{api.Stmt{Kind: api.StmtUser, Name: "u", List: []string{"r", "q"}, Level: level, Range: api.RangeText{Low: level, High: sens("s1")}}, "user u roles { r q } level s0:c0.c2,c4 range s0:c0.c2,c4-s1;"},
		{api.Stmt{Kind: api.StmtBool, Name: "b"}, "bool b false;"},
		{api.Stmt{Kind: api.StmtBool, Name: "b", Value: true}, "bool b true;"},
		{api.Stmt{Kind: api.StmtSensitivity, Name: "s0"}, "sensitivity s0;"},
		{api.Stmt{Kind: api.StmtCategory, Name: "c0"}, "category c0;"},
		{api.Stmt{Kind: api.StmtSid, Name: "kernel", Context: context}, "sid kernel u:object_r:t:s0-s0:c0.c2,c4;"},
		{api.Stmt{Kind: api.StmtAssert, Name: "n", Op: api.AssertNoFlow, Source: names("a"), Target: names("b", "c")}, "assert n noflow a { b c };"},
		{api.Stmt{Kind: api.StmtAssert, Name: "n", Op: api.AssertNoDomain, Source: api.NameSet{All: true}, Target: names("b")}, "assert n nodomain * b;"},
		{api.Stmt{Kind: api.StmtAssert, Name: "n", Op: api.AssertSeparate, Source: names("a"), Target: api.NameSet{Not: true, Names: []string{"b"}}}, "assert n separate a ~ b;"},
	}
}

// rules are samples of rules, transitions and constraints.
func rules() []sample {
	a, b, c, d := names("a"), names("b"), names("c"), names("d")
	all := api.NameSet{All: true}
	return []sample{
		{api.Stmt{Kind: api.StmtRoleAllow, Source: a, Target: names("b", "c")}, "roleallow a { b c };"},
		{api.Stmt{Kind: api.StmtRoleTrans, Source: a, Target: all, Class: c, Result: "d"}, "role_transition a * : c d;"},
		{api.Stmt{Kind: api.StmtRule, Op: api.RuleAllow, Source: a, Target: b, Class: c, Perms: d}, "allow a b : c d;"},
		{api.Stmt{Kind: api.StmtRule, Op: api.RuleAuditAllow, Source: all, Target: api.NameSet{Self: true}, Class: names("c", "d"), Perms: api.NameSet{Not: true, Names: []string{"d"}}}, "auditallow * self : { c d } ~ d;"},
		{api.Stmt{Kind: api.StmtRule, Op: api.RuleDontAudit, Source: api.NameSet{Except: []string{"a"}}, Target: api.NameSet{Not: true, Self: true}, Class: all, Perms: all}, "dontaudit { - a } ~ { self } : * *;"},
		{api.Stmt{Kind: api.StmtRule, Op: api.RuleNeverAllow, Source: a, Target: api.NameSet{All: true, Self: true, Names: []string{"b"}, Except: []string{"c", "d"}}, Class: api.NameSet{Not: true, All: true}, Perms: names("d", "e")}, "neverallow a { * b - c - d self } : ~ { * } { d e };"},
		{api.Stmt{Kind: api.StmtTrans, Op: api.TransCreate, Source: a, Target: b, Class: c, Result: "d"}, "type_transition a b : c d;"},
		{api.Stmt{Kind: api.StmtTrans, Op: api.TransCreate, Source: a, Target: b, Class: c, Result: "d", Text: "x.y"}, "type_transition a b : c d \"x.y\";"},
		{api.Stmt{Kind: api.StmtTrans, Op: api.TransChange, Source: a, Target: b, Class: c, Result: "d"}, "type_change a b : c d;"},
		{api.Stmt{Kind: api.StmtTrans, Op: api.TransMember, Source: a, Target: b, Class: c, Result: "d"}, "type_member a b : c d;"},
		{api.Stmt{Kind: api.StmtRangeTrans, Source: a, Target: b, Class: c, Range: api.RangeText{Low: sens("s0"), High: sens("s1")}}, "range_transition a b : c s0-s1;"},
		{api.Stmt{Kind: api.StmtConstrain, Class: a, Perms: b, Cond: and(not(compare(0, 0, 5)), in(2, "a", "b"))}, "constrain a b !(u1 == u2) && t1 in { a b };"},
		{api.Stmt{Kind: api.StmtConstrain, Class: names("a", "b"), Perms: all, Cond: compare(3, 2, 9)}, "constrain { a b } * l1 dom h2;"},
		{api.Stmt{Kind: api.StmtValidate, Class: a, Cond: or(compare(14, 4, 0), in(11, "r"))}, "validatetrans a h3 incomp u1 || r3 in r;"},
		{api.Stmt{Kind: api.StmtPermissive, Source: names("a", "b")}, "permissive { a b };"},
	}
}

// others are samples of the other statements.
func others() []sample {
	context := api.ContextText{User: "u", Role: "r", Type: "t", Range: api.RangeText{Low: sens("s0")}}
	l := []sample{{api.Stmt{Kind: api.StmtRequire, Op: api.SymClass, Name: "c", List: []string{"d"}}, "require class c { d };"}, {api.Stmt{Kind: api.StmtRequire, Op: api.SymClass, Name: "c", List: []string{"d", "e"}}, "require class c { d e };"}}
	for i, word := range strings.Fields("type attribute role user bool sensitivity category") {
		l = append(l, sample{api.Stmt{Kind: api.StmtRequire, Op: api.SymType + i, List: []string{"a"}}, "require " + word + " a;"},
			sample{api.Stmt{Kind: api.StmtRequire, Op: api.SymType + i, List: []string{"a", "b"}}, "require " + word + " a, b;"})
	}
	for i, word := range strings.Fields("any regular directory link socket") {
		l = append(l, sample{api.Stmt{Kind: api.StmtFile, Op: i, Text: "/a b/*#", Context: context}, "filecon \"/a b/*#\" " + word + " u:r:t:s0;"})
	}
	one, two := api.Stmt{Kind: api.StmtType, Name: "a"}, api.Stmt{Kind: api.StmtRole, Name: "r"}
	inner := api.Stmt{Kind: api.StmtIf, Cond: and(boolean("x"), not(boolean("y"))), Then: []api.Stmt{one, two}, Else: []api.Stmt{two}}
	return append(l,
		sample{api.Stmt{Kind: api.StmtOptional, Then: []api.Stmt{one}}, "optional {\n  type a;\n}"},
		sample{api.Stmt{Kind: api.StmtIf, Cond: boolean("x"), Then: []api.Stmt{one}}, "if x {\n  type a;\n}"},
		sample{inner, "if x && !y {\n  type a;\n  role r;\n} else {\n  role r;\n}"},
		sample{api.Stmt{Kind: api.StmtOptional, Then: []api.Stmt{inner, one}, Else: []api.Stmt{{Kind: api.StmtOptional, Then: []api.Stmt{two}}}},
			"optional {\n  if x && !y {\n    type a;\n    role r;\n  } else {\n    role r;\n  }\n  type a;\n} else {\n  optional {\n    role r;\n  }\n}"})
}

func samples() []sample {
	return append(append(named(), rules()...), others()...)
}

// brief writes the beginning of a value.
func brief(x any) string {
	s := fmt.Sprint(x)
	return s[:min(len(s), 500)]
}

func checkStatement(t *testing.T, s api.Stmt, levels int, want string, code api.Errno) {
	t.Helper()
	if got, c := printer.Statement(s, levels); got != want || c != code {
		t.Errorf("Statement(%s, %d): got %.300q, %v, want %.300q, %v", brief(s), levels, got, c, want, code)
	}
}

func checkModule(t *testing.T, m api.Module, want string, code api.Errno) {
	t.Helper()
	if got, c := printer.Module(m); got != want || c != code {
		t.Errorf("Module(%s): got %.300q, %v, want %.300q, %v", brief(m), got, c, want, code)
	}
	if c := printer.Check(m); c != code && (c != api.OK || code != api.ErrLong) {
		t.Errorf("Check(%s): got %v, want %v", brief(m), c, code)
	}
}

// indented returns a source with two spaces for each level in front of each line.
func indented(src string, levels int) string {
	space := strings.Repeat("  ", levels)
	return space + strings.ReplaceAll(src, "\n", "\n"+space)
}

// picker returns a function that picks numbers below its argument, by a rule that the seed begins.
func picker(seed int) func(int) int {
	state := uint32(seed)
	return func(n int) int {
		state = state*1664525 + 1013904223
		return int(state>>16) % n
	}
}

// nest returns a statement in so many blocks.
func nest(s api.Stmt, blocks int) api.Stmt {
	for i := range blocks {
		if i%2 == 0 {
			s = api.Stmt{Kind: api.StmtOptional, Then: []api.Stmt{s}}
		} else {
			s = api.Stmt{Kind: api.StmtIf, Cond: boolean("x"), Then: []api.Stmt{{Kind: api.StmtAttribute, Name: "x"}}, Else: []api.Stmt{s}}
		}
	}
	return s
}

// cloned returns statements in memory of their own, as deep as their blocks and expressions go.
func cloned(l []api.Stmt) []api.Stmt {
	l = slices.Clone(l)
	for i := range l {
		s := &l[i]
		s.List, s.Aliases = slices.Clone(s.List), slices.Clone(s.Aliases)
		for _, n := range []*api.NameSet{&s.Source, &s.Target, &s.Class, &s.Perms} {
			n.Names, n.Except = slices.Clone(n.Names), slices.Clone(n.Except)
		}
		for _, level := range []*api.LevelText{&s.Level, &s.Range.Low, &s.Range.High, &s.Context.Range.Low, &s.Context.Range.High} {
			level.Cats = slices.Clone(level.Cats)
		}
		s.Cond = clonedExpr(s.Cond)
		s.Then, s.Else = cloned(s.Then), cloned(s.Else)
	}
	return l
}

func clonedExpr(e api.Expr) api.Expr {
	e.Names, e.Kids = slices.Clone(e.Names), slices.Clone(e.Kids)
	for i, kid := range e.Kids {
		e.Kids[i] = clonedExpr(kid)
	}
	return e
}
