package syntax_test

import (
	"slices"
	"strings"
	"testing"

	"accesscontrol/api"
	"accesscontrol/syntax"
)

// P7.1: at most MaxStmts statements, with those in blocks.
func TestMaxStmts(t *testing.T) {
	most := strings.Repeat("type a;\n", api.MaxStmts)
	if l, f := syntax.Statements(most); f != (api.Fault{}) || len(l) != api.MaxStmts {
		t.Errorf("MaxStmts statements: got %d, %v", len(l), f)
	}
	if m, f := syntax.Parse("module m 1;" + most); f != (api.Fault{}) || syntax.Count(m) != api.MaxStmts {
		t.Errorf("MaxStmts statements: got %d, %v", syntax.Count(m), f)
	}
	line := api.MaxStmts + 1
	for _, x := range []struct {
		src  string
		want api.Fault
	}{
		{" type a;", fault(api.ErrLong, line, 2, "type")},
		{"allow self", fault(api.ErrLong, line, 1, "allow")},
		{"if ! {", fault(api.ErrLong, line, 1, "if")},
		{"optional", fault(api.ErrLong, line, 1, "optional")},
		{"type_member", fault(api.ErrLong, line, 1, "type_member")},
		{"module", fault(api.ErrSyntax, line, 1, "module")},
		{"any", fault(api.ErrSyntax, line, 1, "any")},
		{"}", fault(api.ErrSyntax, line, 1, "}")},
		{"else", fault(api.ErrSyntax, line, 1, "else")},
		{"\"type\"", fault(api.ErrSyntax, line, 1, "type")},
	} {
		checkFault(t, most+x.src, x.want)
	}
	checkFault(t, strings.Repeat("type a;\n", api.MaxStmts-1)+"type type;", fault(api.ErrSyntax, api.MaxStmts, 6, "type"))
}

// P7.1: a statement with blocks is counted before those in them.
func TestMaxStmtsInBlocks(t *testing.T) {
	blocks := "optional {\nif x {\ntype a;\n} else {\n" + strings.Repeat("type b;\n", 20) + "}\n} else {\n" + strings.Repeat("type c;\n", 10) + "}\n" // 33 statements
	rest := strings.Repeat("type a;\n", api.MaxStmts-33)
	for _, src := range []string{blocks + rest, rest + blocks} {
		l, f := syntax.Statements(src)
		if f != (api.Fault{}) || syntax.Count(api.Module{Stmts: l}) != api.MaxStmts {
			t.Errorf("MaxStmts statements with blocks: got %d, %v", len(l), f)
		}
	}
	checkFault(t, blocks+rest+"type d;", fault(api.ErrLong, api.MaxStmts-33+38, 1, "type"))
	checkFault(t, "type d;\n"+rest+blocks, fault(api.ErrLong, 1+api.MaxStmts-33+36, 1, "type"))
	checkFault(t, rest+strings.Repeat("type d;\n", 32)+"optional {\ntype a; }", fault(api.ErrLong, api.MaxStmts+1, 1, "type"))
	checkFault(t, rest+strings.Repeat("type d;\n", 33)+"optional {\ntype a; }", fault(api.ErrLong, api.MaxStmts+1, 1, "optional"))
}

// nested returns so many nested blocks, each on a line of its own, around a statement.
func nested(words []string, blocks int, inner string) string {
	var b strings.Builder
	for i := range blocks {
		b.WriteString(words[i%len(words)] + "\n")
	}
	b.WriteString(inner + strings.Repeat("\n}", blocks))
	return b.String()
}

// P7.1: if and optional stand in fewer than MaxNest blocks; other statements may stand in MaxNest.
func TestMaxNest(t *testing.T) {
	for _, words := range [][]string{{"optional {"}, {"if x {"}, {"if x {", "optional {"}, {"optional { type b; } else {", "if x { type b; } else {"}} {
		l, f := syntax.Statements(nested(words, api.MaxNest, "type a;"))
		if f != (api.Fault{}) || syntax.Depth(l) != api.MaxNest {
			t.Errorf("MaxNest blocks of %q: got depth %d, %v", words, syntax.Depth(l), f)
		}
		for _, inner := range []string{"optional", "if"} {
			for _, rest := range []string{" { type a; }", " ! {", "", " ;"} {
				checkFault(t, nested(words, api.MaxNest, inner+rest), fault(api.ErrLong, api.MaxNest+1, 1, inner))
				checkFault(t, nested(words, api.MaxNest, "type b;\n"+inner+rest), fault(api.ErrLong, api.MaxNest+2, 1, inner))
			}
		}
		checkFault(t, nested(words, api.MaxNest, "module"), fault(api.ErrSyntax, api.MaxNest+1, 1, "module"))
		twice := nested(words, api.MaxNest, "type a;") + "\n" + nested(words, api.MaxNest, "type a;")
		if l, f := syntax.Statements(twice); f != (api.Fault{}) || syntax.Depth(l) != api.MaxNest {
			t.Errorf("MaxNest blocks twice: got depth %d, %v", syntax.Depth(l), f)
		}
	}
	checkFault(t, nested([]string{"optional {"}, api.MaxNest-1, "optional { type a; } else {\nif x { type a; } }"), fault(api.ErrLong, api.MaxNest+1, 1, "if"))
}

// levels returns the source of an expression with so many levels, by a kind of nesting.
func levels(kind string, n int) string {
	const one = "u1 == u2"
	switch kind {
	case "not":
		return strings.Repeat("! ", n-1) + one
	case "left":
		return one + strings.Repeat(" && "+one, n-1)
	case "right":
		return strings.Repeat(one+" || ( ", n-1) + one + strings.Repeat(" )", n-1)
	case "in":
		return strings.Repeat("! ( ", n-1) + "t1 in { a b }" + strings.Repeat(" )", n-1)
	}
	return one + " && " + levels("not", n-1) // operands with different levels
}

// P7.1: the expression of a constraint has at most MaxNest levels.
func TestExpressionLevels(t *testing.T) {
	for _, kind := range []string{"not", "left", "right", "in", "mixed"} {
		for n := 2; n <= api.MaxNest+2; n++ {
			src := levels(kind, n)
			first := tokensOf(t, src)[0].Text
			for _, validate := range []bool{false, true} {
				e, f := syntax.Constraint(src, validate)
				if n <= api.MaxNest && (f != (api.Fault{}) || height(e) != n) || n > api.MaxNest && (f != fault(api.ErrLong, 1, 1, first) || e.Op != 0) {
					t.Errorf("Constraint(%q): got %v, %v", src, e, f)
				}
			}
			if n <= api.MaxNest {
				continue
			}
			checkFault(t, "constrain c p\n"+src+";", fault(api.ErrLong, 2, 1, first))
			checkFault(t, "validatetrans c\n"+src+" type", fault(api.ErrLong, 2, 1, first))
			if _, f := syntax.Constraint(src+" type", false); f != fault(api.ErrLong, 1, 1, first) {
				t.Errorf("Constraint(%q): got %v", src+" type", f)
			}
			if _, f := syntax.Constraint(src+" && type", false); f != fault(api.ErrSyntax, 1, len(src)+5, "type") {
				t.Errorf("Constraint(%q): got %v", src+" && type", f)
			}
		}
	}
}

func height(e api.Expr) int {
	most := 0
	for _, kid := range e.Kids {
		most = max(most, height(kid))
	}
	return most + 1
}

// P7.1: parentheses are no levels, and sources that consist of them have an end.
func TestParentheses(t *testing.T) {
	n := api.MaxSource/2 - 10
	if e, f := syntax.Constraint(strings.Repeat("(", n)+"u1 == u2"+strings.Repeat(")", n), false); f != (api.Fault{}) || e.Op != api.ExprCompare {
		t.Errorf("many parentheses: got %v, %v", e, f)
	}
	if _, f := syntax.Constraint(strings.Repeat("(", api.MaxSource), true); f != fault(api.ErrSyntax, 1, api.MaxSource+1, "") {
		t.Errorf("parentheses alone: got %v", f)
	}
	if _, f := syntax.Constraint(strings.Repeat("!", api.MaxSource-8)+"u1 == u2", true); f != fault(api.ErrLong, 1, 1, "!") {
		t.Errorf("many nots: got %v", f)
	}
	for _, c := range "{~-*:;,.^\"" {
		for i, f := range faultsOf(strings.Repeat(string(c), api.MaxSource)) {
			if f.Code == api.OK {
				t.Errorf("function %d of many %q: no fault", i, c)
			}
		}
	}
}

// P7.3: Count and Depth, also of what Parse cannot return.
func TestCountAndDepth(t *testing.T) {
	check := func(l []api.Stmt, count, depth int) {
		t.Helper()
		if c, d := syntax.Count(api.Module{Name: "7", Version: -1, Stmts: l}), syntax.Depth(l); c != count || d != depth {
			t.Errorf("got %d statements and depth %d, want %d and %d", c, d, count, depth)
		}
	}
	one := api.Stmt{Kind: -1}
	list := func(l ...api.Stmt) []api.Stmt { return l }
	check(nil, 0, 0)
	check(list(), 0, 0)
	check(list(one), 1, 0)
	check(list(one, one), 2, 0)
	check(list(api.Stmt{Then: list(), Else: list()}), 1, 0)
	check(list(api.Stmt{Then: list(one, one)}), 3, 1)
	check(list(api.Stmt{Kind: api.StmtType, Else: list(one)}), 2, 1)
	check(list(api.Stmt{Then: list(one), Else: list(one, one)}, one), 5, 1)
	check(list(one, api.Stmt{Then: list(one), Else: list(api.Stmt{Else: list(one)})}, one), 6, 2)
	check(list(api.Stmt{Then: list(api.Stmt{Then: list(one)}), Else: list(one)}), 4, 2)
	check(list(api.Stmt{Then: list(one)}, api.Stmt{Then: list(one, api.Stmt{Then: list(one)})}), 6, 2)
	check(slices.Repeat(list(one), 1<<16), 1<<16, 0)
	check(slices.Repeat(list(api.Stmt{Then: list(one), Else: list(one, one)}), 1<<12), 1<<14, 1)
	deep := list(one)
	for i := range 1<<16 - 1 {
		s := api.Stmt{Then: deep}
		if i%3 == 0 {
			s = api.Stmt{Else: deep}
		}
		deep = list(s)
	}
	check(deep, 1<<16, 1<<16-1)
}
