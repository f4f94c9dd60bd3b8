package modcheck_test

import (
	"fmt"
	"slices"
	"strings"
	"testing"

	"accesscontrol/api"
	"accesscontrol/modcheck"
	"accesscontrol/scope"
	"accesscontrol/syntax"
)

// parsed returns the statements of a source.
func parsed(t *testing.T, src string) []api.Stmt {
	t.Helper()
	l, f := syntax.Statements(src)
	if f.Code != api.OK {
		t.Fatalf("Statements(%q): got %v", src, f)
	}
	return l
}

// module returns the module of statements.
func module(t *testing.T, src string) api.Module {
	t.Helper()
	return api.Module{Name: "m", Version: 1, Stmts: parsed(t, src)}
}

// symbols returns what the statements of a source declare and require.
func symbols(t *testing.T, src string) []api.Symbol {
	t.Helper()
	l, f := scope.Block(parsed(t, src))
	if f.Code != api.OK {
		t.Fatalf("Block(%q): got %v", src, f)
	}
	return l
}

func fault(code api.Errno, line, col int, name string) api.Fault {
	return api.Fault{Code: code, Pos: api.Pos{Line: line, Col: col}, Name: name}
}

func at(line, col int) api.Pos { return api.Pos{Line: line, Col: col} }

// brief writes the beginning of a value.
func brief(x any) string {
	s := fmt.Sprint(x)
	return s[:min(len(s), 500)]
}

func checkModule(t *testing.T, m api.Module, want api.Fault) {
	t.Helper()
	if f := modcheck.Check(m); f != want {
		t.Errorf("Check(%s): got %v, want %v", brief(m), f, want)
	}
}

// checkStatement checks the fault of a statement at some position.
func checkStatement(t *testing.T, s api.Stmt, l []api.Symbol, code api.Errno, name string) {
	t.Helper()
	s.Pos = at(7, 9)
	want := api.Fault{}
	if code != api.OK {
		want = fault(code, 7, 9, name)
	}
	if f := modcheck.Statement(s, l); f != want {
		t.Errorf("Statement(%s, %s): got %v, want %v", brief(s), brief(l), f, want)
	}
}

// words returns a letter with so many numbers.
func words(letter string, count int) []string {
	var l []string
	for i := range count {
		l = append(l, letter+strings.Repeat("x", i%26)+string(rune('a'+i/26)))
	}
	return l
}

// picker picks numbers below its argument, by a rule that the seed begins.
type picker func(int) int

func newPicker(seed int) picker {
	state := uint32(seed)
	return func(n int) int {
		state = state*1664525 + 1013904223
		return int(state>>16) % n
	}
}

// word picks a word; a plus in it becomes a space.
func (pick picker) word(text string) string {
	l := strings.Fields(text)
	return strings.ReplaceAll(l[pick(len(l))], "+", " ")
}

// given is a source that declares or requires most of what random statements use.
const given = "class c { p q };\nrequire class d { p q };\ntype a;\ntype b;\nattribute x;\nrole k; role l;\nbool v true; bool w false;\nsensitivity s; sensitivity t; require sensitivity r;\ncategory g; category h; require category i;\nuser u roles { k } level s range s-t:g.h;\n"

// source returns so many random statements, some of them twice, with at most so many levels of blocks.
func (pick picker) source(count, levels int) string {
	var b strings.Builder
	for range count {
		b.WriteString(strings.Repeat(pick.statement(levels)+"\n", 1+pick(8)/7))
	}
	return b.String()
}

func (pick picker) statement(levels int) string {
	switch n := pick(20); {
	case n < 4 && levels > 0:
		return pick.optional(levels - 1)
	case n < 8 && levels > 0:
		return pick.condition(levels - 1)
	case n < 10:
		return pick.word("require+type+a; require+role+n; require+attribute+y,+z; require+class+d+{+p+}; require+bool+w; sensitivity+o; require+user+m; class+e+{+p+q+}; class+e+{+p+q+p+};")
	case n < 15:
		return pick.rule()
	}
	return pick.other()
}

func (pick picker) optional(levels int) string {
	text := "optional {\n" + pick.word("sensitivity+e; sensitivity+f; require+type+a; require+sensitivity+s; category+j; type+e; permissive+a;") + "\n" + pick.source(pick(3), levels) + "}"
	if pick(2) == 0 {
		text += " else {\n" + pick.source(1+pick(3), levels) + "}"
	}
	return text
}

func (pick picker) condition(levels int) string {
	text := "if " + pick.word("v w v+&&+w v+||+!v w+&&+!(w+||+v) v+==+v v+^+w") + " {\n"
	for range 1 + pick(3) {
		text += pick.rule() + "\n"
	}
	if pick(8) == 0 {
		text += pick.statement(levels) + "\n"
	}
	if pick(2) == 0 {
		text += "} else {\n" + pick.rule() + "\n" + pick.rule() + "\n"
	}
	return text + "}"
}

func (pick picker) types() string {
	return pick.word("a b x a b x {a+b} {a-a} {a+b-b+-a} * ~{*-b} ~{*} ~{*-a} ~a {-a} {*-a+-b}")
}

func (pick picker) class() string { return pick.word("c c c d {c+d} {c-d} {c-c} * ~{*}") }

func (pick picker) perms() string { return pick.word("p q {p+q} {p-p} {p+q-q} * ~{*} ~{p}") }

func (pick picker) rule() string {
	if pick(3) == 0 {
		return pick.word("type_transition type_change type_member") + " " + pick.types() + " " + pick.types() + " : " + pick.class() + " " + pick.word("a b a b z") + ";"
	}
	target := pick.types()
	if pick(5) == 0 {
		target = pick.word("self {self} {a+self} ~{self} ~{*+self} {a-a+self}")
	}
	return pick.word("allow allow auditallow dontaudit dontaudit neverallow") + " " + pick.types() + " " + target + " : " + pick.class() + " " + pick.perms() + ";"
}

func (pick picker) level() string {
	return pick.word("s t s t s t s t r e f") + pick.spans()
}

func (pick picker) spans() string {
	if pick(2) == 0 {
		return ""
	}
	return ":" + pick.word("g h g.h g,h g.i i,g h.g h.g,i j g.j,h")
}

func (pick picker) levels() string {
	if pick(2) == 0 {
		return pick.level()
	}
	return pick.level() + "-" + pick.level()
}

func (pick picker) roles() string {
	return pick.word("k l k l k l {k+l} {k-l} * object_r {k-object_r}")
}

func (pick picker) comparison(contexts string) string {
	first, second := pick.word("u r t l h")+pick.word(contexts), pick.word("u r t l h")+pick.word(contexts)
	if pick(3) > 0 {
		second = first[:1] + second[1:]
	}
	switch pick(4) {
	case 0:
		return pick.word("t1+in+a r2+in+k u1+in+u t2+in+{+a+x+} l1+in+a")
	case 1:
		return pick.word("l h") + pick.word(contexts) + " " + pick.word("dom domby incomp == !=") + " " + pick.word("l h") + pick.word(contexts)
	}
	return first + " " + pick.word("== != == != == != == != dom") + " " + second
}

func (pick picker) expression(contexts string) string {
	text := pick.comparison(contexts)
	for range pick(3) {
		text = pick.word("(+ !+(+") + text + " ) " + pick.word("&& ||") + " " + pick.comparison(contexts)
	}
	return text
}

func (pick picker) other() string {
	switch pick(11) {
	case 0:
		return "roleallow " + pick.roles() + " " + pick.roles() + ";"
	case 1:
		return "role_transition " + pick.roles() + " " + pick.types() + " : " + pick.class() + " " + pick.word("k l k l object_r") + ";"
	case 2:
		return "range_transition " + pick.types() + " " + pick.types() + " : " + pick.class() + " " + pick.levels() + ";"
	case 3:
		return "sid n u:" + pick.word("k object_r") + ":a:" + pick.levels() + ";"
	case 4:
		return "filecon \"/\" any u:k:b:" + pick.levels() + ";"
	case 5:
		return "constrain " + pick.class() + " " + pick.perms() + " " + pick.expression("1 2") + ";"
	case 6:
		return "validatetrans " + pick.class() + " " + pick.expression("1 2 3") + ";"
	case 7:
		return "permissive " + pick.types() + ";"
	case 8:
		return "assert n noflow " + pick.types() + " " + pick.types() + ";"
	case 9:
		return "user " + pick.word("m n o") + " roles { " + pick.word("k l k+l k+l k+object_r") + " } level " + pick.level() + " range " + pick.levels() + ";"
	}
	return pick.word("typeattribute+a+x; typeattribute+b+x,+x; type+e,+x; role+m+types+{+a-a+};")
}

// cloned returns statements in memory of their own, as far as tests change it.
func cloned(l []api.Stmt) []api.Stmt {
	l = slices.Clone(l)
	for i := range l {
		l[i].Then, l[i].Else = cloned(l[i].Then), cloned(l[i].Else)
	}
	return l
}
