package scope_test

import (
	"fmt"
	"slices"
	"strings"
	"testing"

	"accesscontrol/api"
	"accesscontrol/scope"
	"accesscontrol/syntax"
)

// parsed returns the statements of a source.
func parsed(t *testing.T, src string) []api.Stmt {
	t.Helper()
	l, f := syntax.Statements(src)
	if f.Code != api.OK {
		t.Fatalf("Statements(%q): got %v", src, f)
	}
	return l
}

func kinds() []string {
	return []string{0: "any", api.SymClass: "class", api.SymType: "type", api.SymAttribute: "attribute", api.SymRole: "role", api.SymUser: "user", api.SymBool: "bool", api.SymSensitivity: "sensitivity", api.SymCategory: "category"}
}

// spelled writes symbols: what is required has a question mark, permissions stand in braces, and behind the at sign stands the line, and the column if it is not 1.
func spelled(l []api.Symbol) string {
	var words []string
	for _, s := range l {
		word := kinds()[s.Kind] + " " + s.Name
		if s.Required {
			word += "?"
		}
		if len(s.Perms) > 0 {
			word += "{" + strings.Join(s.Perms, " ") + "}"
		}
		word += fmt.Sprint("@", s.Pos.Line)
		if s.Pos.Col != 1 {
			word += fmt.Sprint(":", s.Pos.Col)
		}
		words = append(words, word)
	}
	return strings.Join(words, ", ")
}

// symbols returns symbols that are written as spelled does, with spaces in place of columns.
func symbols(text string) []api.Symbol {
	var l []api.Symbol
	for _, word := range strings.Split(text, ", ") {
		if word == "" {
			continue
		}
		var s api.Symbol
		kind, name, _ := strings.Cut(word, " ")
		name, line, _ := strings.Cut(name, "@")
		name, perms, _ := strings.Cut(name, "{")
		s.Kind, s.Name, s.Required = slices.Index(kinds(), kind), strings.TrimSuffix(name, "?"), strings.HasSuffix(name, "?")
		s.Perms = strings.Fields(strings.TrimSuffix(perms, "}"))
		fmt.Sscan(line, &s.Pos.Line)
		s.Pos.Col = 1
		l = append(l, s)
	}
	return l
}

func fault(code api.Errno, line, col int, name string) api.Fault {
	return api.Fault{Code: code, Pos: api.Pos{Line: line, Col: col}, Name: name}
}

// checkBlock checks what statements declare and require, also as those of a module.
func checkBlock(t *testing.T, l []api.Stmt, want string, f api.Fault) {
	t.Helper()
	for _, block := range []func() ([]api.Symbol, api.Fault){
		func() ([]api.Symbol, api.Fault) { return scope.Block(l) },
		func() ([]api.Symbol, api.Fault) { return scope.Symbols(api.Module{Name: "m", Stmts: l}) },
	} {
		if got, g := block(); spelled(got) != want || g != f {
			t.Errorf("%.300v: got %s, %v, want %s, %v", l, spelled(got), g, want, f)
		}
	}
}

func checkUses(t *testing.T, l []api.Stmt, want string) {
	t.Helper()
	if got := scope.Uses(l); spelled(got) != want {
		t.Errorf("Uses(%.300v): got %s, want %s", l, spelled(got), want)
	}
}

func checkFault(t *testing.T, l []api.Stmt, want api.Fault) {
	t.Helper()
	if f := scope.Check(api.Module{Name: "m", Stmts: l}); f != want {
		t.Errorf("Check(%.300v): got %v, want %v", l, f, want)
	}
}

// picker picks numbers below its argument, by a rule that the seed begins.
type picker func(int) int

func newPicker(seed int) picker {
	state := uint32(seed)
	return func(n int) int {
		state = state*1664525 + 1013904223
		return int(state>>16) % n
	}
}

// word picks a word; a plus in it becomes a space.
func (pick picker) word(text string) string {
	l := strings.Fields(text)
	return strings.ReplaceAll(l[pick(len(l))], "+", " ")
}

// source returns statements with few names, so that many of them are the same, and with at most so many levels of blocks.
func (pick picker) source(count, levels int) string {
	var b strings.Builder
	for range count {
		b.WriteString(pick.statement(levels) + "\n")
	}
	return b.String()
}

func (pick picker) statement(levels int) string {
	switch n := pick(12); {
	case n < 4:
		return pick.declaration()
	case n < 6:
		return pick.requirement()
	case n < 8 && levels > 0:
		return pick.block(levels - 1)
	}
	return pick.use()
}

func (pick picker) declaration() string {
	switch pick(8) {
	case 0:
		return "class " + pick.word("c d") + " { " + pick.word("p q r") + " " + pick.word("p q r") + " };"
	case 1:
		return "type " + pick.word("a b e") + " alias { " + pick.word("f g h i j") + " };"
	case 2:
		return "attribute " + pick.word("x y z a") + ";"
	case 3:
		return "role " + pick.word("k l m n") + " types " + pick.word("a b x") + ";"
	case 4:
		return "bool " + pick.word("u v w") + " true;"
	case 5:
		return "sensitivity " + pick.word("s t a") + ";"
	case 6:
		return "category " + pick.word("s t a") + ";"
	}
	return "type " + pick.word("a b e f") + ", " + pick.word("x y a") + ";"
}

func (pick picker) requirement() string {
	if pick(2) == 0 {
		return "require class " + pick.word("c d") + " { " + pick.word("p q") + " " + pick.word("q r") + " };"
	}
	return "require " + pick.word("type type attribute attribute role user bool sensitivity category") + " " + pick.word("a b e x y k u s object_r") + ", " + pick.word("a b x y z k l u v s t") + ";"
}

func (pick picker) block(levels int) string {
	head := "optional {\n"
	if pick(3) == 0 {
		head = "if " + pick.word("u v w") + " && !" + pick.word("u v") + " {\n"
	}
	text := head + pick.source(1+pick(3), levels) + "}"
	if pick(3) == 0 {
		text += " else {\n" + pick.source(1+pick(2), levels) + "}"
	}
	return text
}

func (pick picker) use() string {
	a, b, class := pick.word("a b x y"), pick.word("{a-b} {b-x-y} e self *"), pick.word("c d {c-d} {d-c} {c+d}")
	switch pick(8) {
	case 0:
		return "typeattribute " + a + " " + pick.word("x y a") + ";"
	case 1:
		return "type_transition " + a + " * : " + class + " " + pick.word("a b e") + ";"
	case 2:
		return "roleallow " + pick.word("k l object_r") + " " + pick.word("k l m") + ";"
	case 3:
		return "sid kernel " + pick.word("k u") + ":" + pick.word("object_r k") + ":" + a + ":s:t.a;"
	case 4:
		return "constrain " + class + " " + pick.word("p q {p+q}") + " t1 in { " + a + " } || ! r2 in " + pick.word("k object_r") + ";"
	}
	return "allow " + a + " " + b + " : " + class + " " + pick.word("p q {p-q} {q+r}") + ";"
}
