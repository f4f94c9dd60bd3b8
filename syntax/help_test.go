package syntax_test

import (
	"reflect"
	"strings"
	"testing"

	"accesscontrol/api"
	"accesscontrol/syntax"
	"accesscontrol/token"
)

// keywords are those of the document.
const keywords = "module class type alias typeattribute attribute role types roleallow role_transition user roles level range bool true false sensitivity category allow auditallow dontaudit neverallow type_transition type_change type_member range_transition constrain validatetrans if else optional require sid filecon permissive assert self in"

// notReserved are the other words of the grammar.
const notReserved = "any regular directory link socket noflow nodomain separate u1 r1 t1 l1 h1 u2 r2 t2 l2 h2 u3 r3 t3 l3 h3 dom domby incomp"

// sample is a source of one statement, with the statement, whose positions count from its beginning.
type sample struct {
	src  string
	want api.Stmt
}

func names(l ...string) api.NameSet { return api.NameSet{Names: l} }

func sens(s string) api.LevelText { return api.LevelText{Sens: s} }

func compare(a, rel, b int) api.Expr {
	return api.Expr{Op: api.ExprCompare, A: a, Rel: rel, B: b}
}

func in(a int, l ...string) api.Expr { return api.Expr{Op: api.ExprIn, A: a, Names: l} }

func not(x api.Expr) api.Expr { return api.Expr{Op: api.ExprNot, Kids: []api.Expr{x}} }

func and(x, y api.Expr) api.Expr { return api.Expr{Op: api.ExprAnd, Kids: []api.Expr{x, y}} }

func or(x, y api.Expr) api.Expr { return api.Expr{Op: api.ExprOr, Kids: []api.Expr{x, y}} }

func boolean(s string) api.Expr { return api.Expr{Op: api.ExprName, Names: []string{s}} }

func fault(code api.Errno, line, col int, name string) api.Fault {
	return api.Fault{Code: code, Pos: api.Pos{Line: line, Col: col}, Name: name}
}

// declarations are samples of statements that declare, with each part that may be missing, and with what may be repeated.
func declarations() []sample {
	at := api.Pos{Line: 1, Col: 1}
	long := strings.Repeat("n", api.MaxName)
	return []sample{
		{"class file { read };", api.Stmt{Kind: api.StmtClass, Pos: at, Name: "file", List: []string{"read"}}},
		{"class any { u1 read read dom };", api.Stmt{Kind: api.StmtClass, Pos: at, Name: "any", List: []string{"u1", "read", "read", "dom"}}},
		{"type a;", api.Stmt{Kind: api.StmtType, Pos: at, Name: "a"}},
		{"type " + long + ";", api.Stmt{Kind: api.StmtType, Pos: at, Name: long}},
		{"type a alias { b };", api.Stmt{Kind: api.StmtType, Pos: at, Name: "a", Aliases: []string{"b"}}},
		{"type a alias { b c }, x, y;", api.Stmt{Kind: api.StmtType, Pos: at, Name: "a", Aliases: []string{"b", "c"}, List: []string{"x", "y"}}},
		{"type a, x, a, x;", api.Stmt{Kind: api.StmtType, Pos: at, Name: "a", List: []string{"x", "a", "x"}}},
		{"attribute link;", api.Stmt{Kind: api.StmtAttribute, Pos: at, Name: "link"}},
		{"typeattribute a x;", api.Stmt{Kind: api.StmtMember, Pos: at, Name: "a", List: []string{"x"}}},
		{"typeattribute a x, y, x;", api.Stmt{Kind: api.StmtMember, Pos: at, Name: "a", List: []string{"x", "y", "x"}}},
		{"role r;", api.Stmt{Kind: api.StmtRole, Pos: at, Name: "r"}},
		{"role r types a;", api.Stmt{Kind: api.StmtRole, Pos: at, Name: "r", Source: names("a")}},
		{"role r types ~ { a - b };", api.Stmt{Kind: api.StmtRole, Pos: at, Name: "r", Source: api.NameSet{Not: true, Names: []string{"a"}, Except: []string{"b"}}}},
		{"roleallow r { s t };", api.Stmt{Kind: api.StmtRoleAllow, Pos: at, Source: names("r"), Target: names("s", "t")}},
		{"role_transition r * : process s;", api.Stmt{Kind: api.StmtRoleTrans, Pos: at, Source: names("r"), Target: api.NameSet{All: true}, Class: names("process"), Result: "s"}},
		{"user u roles { r } level s0 range s0;", api.Stmt{Kind: api.StmtUser, Pos: at, Name: "u", List: []string{"r"}, Level: sens("s0"), Range: api.RangeText{Low: sens("s0")}}},
		{"user u roles { r s r } level s0 : c1 . c2 , c4 range s0 : c1 - s1 : c1 , c2 . c3;", api.Stmt{Kind: api.StmtUser, Pos: at, Name: "u", List: []string{"r", "s", "r"},
			Level: api.LevelText{Sens: "s0", Cats: []api.Span{{From: "c1", To: "c2"}, {From: "c4"}}},
			Range: api.RangeText{Low: api.LevelText{Sens: "s0", Cats: []api.Span{{From: "c1"}}}, High: api.LevelText{Sens: "s1", Cats: []api.Span{{From: "c1"}, {From: "c2", To: "c3"}}}}}},
		{"bool b true;", api.Stmt{Kind: api.StmtBool, Pos: at, Name: "b", Value: true}},
		{"bool b false;", api.Stmt{Kind: api.StmtBool, Pos: at, Name: "b"}},
		{"sensitivity s0;", api.Stmt{Kind: api.StmtSensitivity, Pos: at, Name: "s0"}},
		{"category c0;", api.Stmt{Kind: api.StmtCategory, Pos: at, Name: "c0"}},
	}
}

// rules are samples of rules, transitions and constraints.
func rules() []sample {
	at := api.Pos{Line: 1, Col: 1}
	a, b, file, read := names("a"), names("b"), names("file"), names("read")
	all := api.NameSet{All: true}
	return []sample{
		{"allow a b : file read;", api.Stmt{Kind: api.StmtRule, Op: api.RuleAllow, Pos: at, Source: a, Target: b, Class: file, Perms: read}},
		{"allow a self : { file dir } { read - write };", api.Stmt{Kind: api.StmtRule, Op: api.RuleAllow, Pos: at, Source: a, Target: api.NameSet{Self: true}, Class: names("file", "dir"), Perms: api.NameSet{Names: []string{"read"}, Except: []string{"write"}}}},
		{"auditallow { a - b } { * - b self } : * ~ read;", api.Stmt{Kind: api.StmtRule, Op: api.RuleAuditAllow, Pos: at, Source: api.NameSet{Names: []string{"a"}, Except: []string{"b"}}, Target: api.NameSet{All: true, Self: true, Except: []string{"b"}}, Class: all, Perms: api.NameSet{Not: true, Names: []string{"read"}}}},
		{"dontaudit ~ a ~ { self a } : ~ file ~ { * };", api.Stmt{Kind: api.StmtRule, Op: api.RuleDontAudit, Pos: at, Source: api.NameSet{Not: true, Names: []string{"a"}}, Target: api.NameSet{Not: true, Self: true, Names: []string{"a"}}, Class: api.NameSet{Not: true, Names: []string{"file"}}, Perms: api.NameSet{Not: true, All: true}}},
		{"neverallow { b - a a - b b } { self * self * } : file *;", api.Stmt{Kind: api.StmtRule, Op: api.RuleNeverAllow, Pos: at, Source: api.NameSet{Names: []string{"b", "a", "b"}, Except: []string{"a", "b"}}, Target: api.NameSet{All: true, Self: true}, Class: file, Perms: all}},
		{"type_transition a b : file c;", api.Stmt{Kind: api.StmtTrans, Op: api.TransCreate, Pos: at, Source: a, Target: b, Class: file, Result: "c"}},
		{"type_transition a b : file c \"x.y\";", api.Stmt{Kind: api.StmtTrans, Op: api.TransCreate, Pos: at, Source: a, Target: b, Class: file, Result: "c", Text: "x.y"}},
		{"type_change a * : { file } c;", api.Stmt{Kind: api.StmtTrans, Op: api.TransChange, Pos: at, Source: a, Target: all, Class: file, Result: "c"}},
		{"type_member { - a } b : file c;", api.Stmt{Kind: api.StmtTrans, Op: api.TransMember, Pos: at, Source: api.NameSet{Except: []string{"a"}}, Target: b, Class: file, Result: "c"}},
		{"range_transition a b : file s0 - s1;", api.Stmt{Kind: api.StmtRangeTrans, Pos: at, Source: a, Target: b, Class: file, Range: api.RangeText{Low: sens("s0"), High: sens("s1")}}},
		{"constrain file read u1 == u2;", api.Stmt{Kind: api.StmtConstrain, Pos: at, Class: file, Perms: read, Cond: compare(api.AttrUser, api.RelSame, 5+api.AttrUser)}},
		{"constrain { file } ~ { read } ! ( l1 dom h2 && t2 in { a b } ) || r1 in s;", api.Stmt{Kind: api.StmtConstrain, Pos: at, Class: file, Perms: api.NameSet{Not: true, Names: []string{"read"}},
			Cond: or(not(and(compare(api.AttrLow, api.RelDominates, 5+api.AttrHigh), in(5+api.AttrType, "a", "b"))), in(api.AttrRole, "s"))}},
		{"validatetrans * t3 != r1;", api.Stmt{Kind: api.StmtValidate, Pos: at, Class: all, Cond: compare(10+api.AttrType, api.RelDiffer, api.AttrRole)}},
	}
}

// others are samples of the other statements, also with blocks.
func others() []sample {
	at := api.Pos{Line: 1, Col: 1}
	context := api.ContextText{User: "u", Role: "object_r", Type: "t", Range: api.RangeText{Low: sens("s0"), High: api.LevelText{Sens: "s0", Cats: []api.Span{{From: "c1"}}}}}
	low := api.ContextText{User: "u", Role: "r", Type: "t", Range: api.RangeText{Low: sens("s0")}}
	l := []sample{
		{"require class file { read write read };", api.Stmt{Kind: api.StmtRequire, Op: api.SymClass, Pos: at, Name: "file", List: []string{"read", "write", "read"}}},
		{"sid kernel u : r : t : s0;", api.Stmt{Kind: api.StmtSid, Pos: at, Name: "kernel", Context: low}},
		{"permissive { a - b };", api.Stmt{Kind: api.StmtPermissive, Pos: at, Source: api.NameSet{Names: []string{"a"}, Except: []string{"b"}}}},
		{"permissive *;", api.Stmt{Kind: api.StmtPermissive, Pos: at, Source: api.NameSet{All: true}}},
		{"if x { permissive a; }", api.Stmt{Kind: api.StmtIf, Pos: at, Cond: boolean("x"), Then: []api.Stmt{{Kind: api.StmtPermissive, Pos: api.Pos{Line: 1, Col: 8}, Source: names("a")}}}},
		{"optional { type a; type b; } else { role r; }", api.Stmt{Kind: api.StmtOptional, Pos: at,
			Then: []api.Stmt{{Kind: api.StmtType, Pos: api.Pos{Line: 1, Col: 12}, Name: "a"}, {Kind: api.StmtType, Pos: api.Pos{Line: 1, Col: 20}, Name: "b"}},
			Else: []api.Stmt{{Kind: api.StmtRole, Pos: api.Pos{Line: 1, Col: 37}, Name: "r"}}}},
		{"optional { if ! x && y { optional { type a; } else { type b; } } }", api.Stmt{Kind: api.StmtOptional, Pos: at, Then: []api.Stmt{{Kind: api.StmtIf, Pos: api.Pos{Line: 1, Col: 12}, Cond: and(not(boolean("x")), boolean("y")),
			Then: []api.Stmt{{Kind: api.StmtOptional, Pos: api.Pos{Line: 1, Col: 26}, Then: []api.Stmt{{Kind: api.StmtType, Pos: api.Pos{Line: 1, Col: 37}, Name: "a"}}, Else: []api.Stmt{{Kind: api.StmtType, Pos: api.Pos{Line: 1, Col: 54}, Name: "b"}}}}}}}},
	}
	for op, word := range map[int]string{api.SymType: "type", api.SymAttribute: "attribute", api.SymRole: "role", api.SymUser: "user", api.SymBool: "bool", api.SymSensitivity: "sensitivity", api.SymCategory: "category"} {
		l = append(l, sample{"require " + word + " a;", api.Stmt{Kind: api.StmtRequire, Op: op, Pos: at, List: []string{"a"}}},
			sample{"require " + word + " a, b, a;", api.Stmt{Kind: api.StmtRequire, Op: op, Pos: at, List: []string{"a", "b", "a"}}})
	}
	for op, word := range []string{"any", "regular", "directory", "link", "socket"} {
		l = append(l, sample{"filecon \"/a b*#\" " + word + " u:object_r:t:s0-s0:c1;", api.Stmt{Kind: api.StmtFile, Op: op, Pos: at, Text: "/a b*#", Context: context}})
	}
	for op, word := range map[int]string{api.AssertNoFlow: "noflow", api.AssertNoDomain: "nodomain", api.AssertSeparate: "separate"} {
		l = append(l, sample{"assert noflow " + word + " a ~ { b * };", api.Stmt{Kind: api.StmtAssert, Op: op, Pos: at, Name: "noflow", Source: names("a"), Target: api.NameSet{Not: true, All: true, Names: []string{"b"}}}})
	}
	return l
}

func samples() []sample {
	return append(append(declarations(), rules()...), others()...)
}

// lower moves the positions of statements to other lines.
func lower(l []api.Stmt, lines int) []api.Stmt {
	var moved []api.Stmt
	for _, s := range l {
		s.Pos.Line += lines
		s.Then, s.Else = lower(s.Then, lines), lower(s.Else, lines)
		moved = append(moved, s)
	}
	return moved
}

// moved returns the fault with a position that is so many lines lower.
func moved(f api.Fault, lines int) api.Fault {
	if f.Pos != (api.Pos{}) {
		f.Pos.Line += lines
	}
	return f
}

func checkStatements(t *testing.T, src string, want []api.Stmt) {
	t.Helper()
	if got, f := syntax.Statements(src); f != (api.Fault{}) || !reflect.DeepEqual(got, want) {
		t.Errorf("Statements(%.300q): got %v, %v, want %v", src, got, f, want)
	}
	m, f := syntax.Parse("module m 1;\n" + src)
	if f != (api.Fault{}) || m.Name != "m" || m.Version != 1 || !reflect.DeepEqual(m.Stmts, lower(want, 1)) {
		t.Errorf("Parse of %.300q: got %v, %v, want %v", src, m, f, want)
	}
}

// checkFault checks the fault of statements, alone and in a module.
func checkFault(t *testing.T, src string, want api.Fault) {
	t.Helper()
	if l, f := syntax.Statements(src); f != want || len(l) != 0 {
		t.Errorf("Statements(%.300q): got %v, %v, want %v", src, l, f, want)
	}
	checkModuleFault(t, "module m 1;\n"+src, moved(want, 1))
}

func checkModuleFault(t *testing.T, src string, want api.Fault) {
	t.Helper()
	if m, f := syntax.Parse(src); f != want || m.Name != "" || m.Version != 0 || len(m.Stmts) != 0 {
		t.Errorf("Parse(%.300q): got %v, %v, want %v", src, m, f, want)
	}
}

// tokensOf returns the tokens of a source, without the end.
func tokensOf(t *testing.T, src string) []api.Token {
	t.Helper()
	l, f := token.Scan(src)
	if f != (api.Fault{}) {
		t.Fatalf("Scan(%q): got %v", src, f)
	}
	return l[:len(l)-1]
}

// spell returns how a token stands in a source.
func spell(t api.Token) string {
	if t.Kind == api.TokString {
		return "\"" + t.Text + "\""
	}
	return t.Text
}

// spelled returns a source of tokens, each with a separator behind it.
func spelled(l []api.Token, separator string) string {
	var b strings.Builder
	for _, t := range l {
		b.WriteString(spell(t) + separator)
	}
	return b.String()
}

// picker returns a function that picks numbers below its argument, by a rule that the seed begins.
func picker(seed int) func(int) int {
	state := uint32(seed)
	return func(n int) int {
		state = state*1664525 + 1013904223
		return int(state>>16) % n
	}
}
