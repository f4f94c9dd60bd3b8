package syntax_test

import (
	"reflect"
	"slices"
	"strings"
	"testing"

	"accesscontrol/api"
	"accesscontrol/boolexp"
	"accesscontrol/printer"
	"accesscontrol/syntax"
	"accesscontrol/token"
)

// P7.1, P7.2: statements of all kinds.
func TestStatements(t *testing.T) {
	for _, x := range samples() {
		checkStatements(t, x.src, []api.Stmt{x.want})
	}
	checkStatements(t, "", nil)
	checkStatements(t, " # nothing\n\t", nil)
}

// P7.1: the header of a module.
func TestHeader(t *testing.T) {
	for _, x := range []struct {
		src     string
		name    string
		version int
	}{{"module m 0;", "m", 0}, {"module m 1;", "m", 1}, {"module any 9999;", "any", 9999}, {"\n#x\nmodule\nu1\n10\n;\n", "u1", 10}} {
		if m, f := syntax.Parse(x.src); f != (api.Fault{}) || m.Name != x.name || m.Version != x.version || len(m.Stmts) != 0 {
			t.Errorf("Parse(%q): got %v, %v", x.src, m, f)
		}
	}
	for _, x := range []struct {
		src  string
		want api.Fault
	}{
		{"", fault(api.ErrSyntax, 1, 1, "")},
		{"\n # a\n ", fault(api.ErrSyntax, 3, 2, "")},
		{"type a;", fault(api.ErrSyntax, 1, 1, "type")},
		{"\"module\" m 1;", fault(api.ErrSyntax, 1, 1, "module")},
		{"module", fault(api.ErrSyntax, 1, 7, "")},
		{"module 1;", fault(api.ErrSyntax, 1, 8, "1")},
		{"module module 1;", fault(api.ErrSyntax, 1, 8, "module")},
		{"module \"m\" 1;", fault(api.ErrSyntax, 1, 8, "m")},
		{"module m", fault(api.ErrSyntax, 1, 9, "")},
		{"module m;", fault(api.ErrSyntax, 1, 9, ";")},
		{"module m n;", fault(api.ErrSyntax, 1, 10, "n")},
		{"module m - 1;", fault(api.ErrSyntax, 1, 10, "-")},
		{"module m \"1\";", fault(api.ErrSyntax, 1, 10, "1")},
		{"module m 1", fault(api.ErrSyntax, 1, 11, "")},
		{"module m 1.2;", fault(api.ErrSyntax, 1, 11, ".")},
		{"module m 1 type a;", fault(api.ErrSyntax, 1, 12, "type")},
		{"module m 10000;", fault(api.ErrRange, 1, 10, "10000")},
		{"module m 999999999", fault(api.ErrRange, 1, 10, "999999999")},
		{"module m 1; module n 1;", fault(api.ErrSyntax, 1, 13, "module")},
		{"module m 1;;", fault(api.ErrSyntax, 1, 12, ";")},
		{"module m 1; }", fault(api.ErrSyntax, 1, 13, "}")},
	} {
		checkModuleFault(t, x.src, x.want)
	}
}

// P7.1: a fault of token.Scan comes first, without a name.
func TestScanFaults(t *testing.T) {
	for _, bad := range []string{"$", "=", "&", "007", "1234567890", "\"a", "\"\n\"", "\"" + strings.Repeat("x", api.MaxPath+1) + "\"", strings.Repeat("n", api.MaxName+1)} {
		for _, front := range []string{"", "module 7 module; ", "module m 10000; type type; filecon \"\" ", "type a;\n"} {
			src := front + bad
			_, want := token.Scan(src)
			if want.Code == api.OK {
				t.Fatalf("Scan(%q): no fault", src)
			}
			for i, f := range faultsOf(src) {
				if f != want {
					t.Errorf("function %d of %q: got %v, want %v", i, src, f, want)
				}
			}
		}
	}
	for i, f := range faultsOf("module m 10000; " + strings.Repeat(" ", api.MaxSource)) {
		if f != (api.Fault{Code: api.ErrLong}) {
			t.Errorf("function %d of a long source: got %v", i, f)
		}
	}
	src := "module m 1;" + strings.Repeat(" ", api.MaxSource-11)
	if m, f := syntax.Parse(src); f != (api.Fault{}) || m.Name != "m" {
		t.Errorf("Parse of MaxSource bytes: got %v, %v", m, f)
	}
}

// faultsOf returns the faults of all functions that parse, for one source. It is an error if something else stands next to one.
func faultsOf(src string) []api.Fault {
	m, f0 := syntax.Parse(src)
	l, f1 := syntax.Statements(src)
	n, f2 := syntax.Names(src)
	e, f3 := syntax.Constraint(src, false)
	v, f4 := syntax.Constraint(src, true)
	r, f5 := syntax.Range(src)
	c, f6 := syntax.Context(src)
	faults := []api.Fault{f0, f1, f2, f3, f4, f5, f6}
	for i, x := range []any{m, l, n, e, v, r, c} {
		if faults[i].Code != api.OK && !reflect.ValueOf(x).IsZero() {
			faults[i].Name += " with a result"
		}
	}
	return faults
}

// P7.4: a module that is printed is parsed as it was.
func TestBack(t *testing.T) {
	var sources []string
	for _, x := range samples() {
		sources = append(sources, x.src)
	}
	sources = append(sources, "", strings.Join(sources, "\n"), "optional {"+strings.Join(sources, "\n")+"} else {"+strings.Join(sources, "\n")+"}")
	for _, src := range sources {
		m, f := syntax.Parse("module m 77; " + src)
		printed, code := printer.Module(m)
		got, g := syntax.Parse(printed)
		if f != (api.Fault{}) || g != f || code != api.OK || !reflect.DeepEqual(withoutPositions(got.Stmts), withoutPositions(m.Stmts)) || got.Name != "m" || got.Version != 77 {
			t.Errorf("%.300q is printed as %.300q, %v, and parsed with %v", src, printed, code, g)
		}
	}
}

func withoutPositions(l []api.Stmt) []api.Stmt {
	var plain []api.Stmt
	for _, s := range l {
		s.Pos, s.Then, s.Else = api.Pos{}, withoutPositions(s.Then), withoutPositions(s.Else)
		plain = append(plain, s)
	}
	return plain
}

// positions returns the positions of statements, in the order of the source.
func positions(l []api.Stmt) []api.Pos {
	var p []api.Pos
	for _, s := range l {
		p = append(append(append(p, s.Pos), positions(s.Then)...), positions(s.Else)...)
	}
	return p
}

// P7.5: blanks and comments change positions alone: a statement stands where its first token does.
func TestBlanks(t *testing.T) {
	blanks := []string{" ", "\n", "\t", " \n\t ", "#\n", " # allow a b : c d; {\n", "\n\n#\"\n\t"}
	for seed := range 300 {
		pick := picker(seed)
		src := "module m 1;"
		for range 1 + pick(6) {
			src += " " + samples()[pick(len(samples()))].src
		}
		tokens := tokensOf(t, src)
		spaced := blanks[pick(len(blanks))]
		for _, x := range tokens {
			spaced += spell(x) + blanks[pick(len(blanks))]
		}
		m, _ := syntax.Parse(src)
		got, f := syntax.Parse(spaced)
		if f != (api.Fault{}) || got.Name != m.Name || got.Version != m.Version || !reflect.DeepEqual(withoutPositions(got.Stmts), withoutPositions(m.Stmts)) {
			t.Fatalf("Parse(%q): got %v, %v, want %v", spaced, got, f, m)
		}
		old, now := positions(m.Stmts), positions(got.Stmts)
		for i, x := range tokensOf(t, spaced) {
			if n := slices.Index(old, tokens[i].Pos); n >= 0 && now[n] != x.Pos {
				t.Errorf("Parse(%q): statement %d stands at %v, want %v", spaced, n, now[n], x.Pos)
			}
		}
	}
}

// P7.5: no blanks between tokens that need none.
func TestNoBlanks(t *testing.T) {
	got, f := syntax.Statements("allow{a-b}{*self}:~file*;sid k u:r:t:s0:c0.c1,c3-s1;constrain*~{p}!u1!=u2&&(l1 domby h2||!t1 in{a});if!x{permissive{-a};}else{type a,b;}")
	want, g := syntax.Statements("allow { a - b } { * self } : ~ file * ; sid k u : r : t : s0 : c0 . c1 , c3 - s1 ; constrain * ~ { p } ! u1 != u2 && ( l1 domby h2 || ! t1 in { a } ) ; if ! x { permissive { - a } ; } else { type a , b ; }")
	if f != (api.Fault{}) || g != f || len(got) != 4 || !reflect.DeepEqual(withoutPositions(got), withoutPositions(want)) {
		t.Errorf("got %v, %v, want %v, %v", got, f, want, g)
	}
}

// P7.6: the statements of two sources, one after the other.
func TestParts(t *testing.T) {
	all := samples()
	for seed := range 300 {
		pick := picker(seed)
		var parts [2]string
		for i := range parts {
			for range pick(4) {
				parts[i] += all[pick(len(all))].src + "\n"
			}
		}
		first, _ := syntax.Statements(parts[0])
		second, _ := syntax.Statements(parts[1])
		checkStatements(t, parts[0]+parts[1], append(first, lower(second, strings.Count(parts[0], "\n"))...))
	}
}

// P7.7: the condition of an if statement, or its fault, is that of boolexp.Parse.
func TestConditions(t *testing.T) {
	for _, text := range []string{"a", "!a", "!!a", "a && b", "a || b && !c ^ d", "(a || b) && c", "a == b != c", "a == (b != c)", "((((a))))", "any ^ u1", "a||a||a||a||a||a||a||a||a||a||a||a", "!!!!!!!!!!!a"} {
		e, f := boolexp.Parse(text)
		l, g := syntax.Statements("if " + text + " { type t; }")
		if f != g || f != (api.Fault{}) || len(l) != 1 || !boolexp.Same(l[0].Cond, e) {
			t.Errorf("the condition of %q: got %v, %v, want %v, %v", text, l, g, e, f)
		}
	}
	for _, text := range []string{"!", "(", "(a", "a &&", "&& a", "a || ", "if", "self", "true", "7", "\"a\"", "()", "a && (b", "a && module", "(a b)", "(a = b)", "!!!!!!!!!!!!!a", "((((((((((((( a", "!!!!!!!!!!!!a", "a||a||a||a||a||a||a||a||a||a||a||a||a", "b && (!!!!!!!!!!!a)"} {
		_, want := boolexp.Parse(text)
		if want.Code == api.OK {
			t.Fatalf("boolexp.Parse(%q): no fault", text)
		}
		want.Pos.Line += 2
		src := "# one\nif\n" + text
		if _, f := token.Scan(src); f.Code != api.OK { // the rest is never read
			checkFault(t, src, want)
			continue
		}
		checkFault(t, src+"\n{ type t; }", behind(want, text))
	}
}

// behind returns the fault at the brace behind a condition, if it is one at its end.
func behind(f api.Fault, text string) api.Fault {
	if f.Pos == (api.Pos{Line: 3, Col: len(text) + 1}) {
		f.Pos = api.Pos{Line: 4, Col: 1}
	}
	return f
}

// P7.8: a word can be a name exactly if it is an identifier.
func TestWords(t *testing.T) {
	words := append(strings.Fields(keywords+" "+notReserved), "a", "_", "Z9_", "allowed", "Allow", "object_r", "kernel", strings.Repeat("n", api.MaxName))
	for _, w := range words {
		m, f := syntax.Parse("module " + w + " 1;")
		l, g := syntax.Statements("type " + w + ";")
		if !token.Identifier(w) {
			checkModuleFault(t, "module "+w+" 1;", fault(api.ErrSyntax, 1, 8, w))
			checkFault(t, "type "+w+";", fault(api.ErrSyntax, 1, 6, w))
		} else if f != (api.Fault{}) || m.Name != w || g != f || len(l) != 1 || l[0].Name != w {
			t.Errorf("the word %s: got %v, %v, %v, %v", w, m, f, l, g)
		}
	}
	if !token.Identifier("u1") || token.Identifier("in") {
		t.Error("Identifier does not tell words apart")
	}
}

// slicesOf visits the slices within a value.
func slicesOf(v reflect.Value, visit func(reflect.Value)) {
	switch v.Kind() {
	case reflect.Struct:
		for i := range v.NumField() {
			slicesOf(v.Field(i), visit)
		}
	case reflect.Slice:
		visit(v)
		for i := range v.Len() {
			slicesOf(v.Index(i), visit)
		}
	}
}

// Rules: results are new memory, in which no two slices share any, not even behind their ends.
func TestMemory(t *testing.T) {
	var src string
	for _, x := range samples() {
		src += x.src + "\n"
	}
	src = "module m 1; " + src + "optional {" + src + "} else {" + src + "}"
	a, f := syntax.Parse(src)
	b, _ := syntax.Parse(src)
	if f != (api.Fault{}) {
		t.Fatal(f)
	}
	seen := map[uintptr]bool{}
	for _, m := range []api.Module{a, b} {
		slicesOf(reflect.ValueOf(m), func(v reflect.Value) {
			if v.Cap() == 0 {
				return
			}
			whole := v.Slice3(0, v.Cap(), v.Cap())
			for i := range whole.Len() {
				address := whole.Index(i).Addr().Pointer()
				if seen[address] {
					t.Fatalf("memory of %v is shared", v)
				}
				seen[address] = true
			}
		})
	}
	if _, f := token.Scan(src); f.Code != api.OK || len(seen) < 100 {
		t.Errorf("only %d elements were seen", len(seen))
	}
}
