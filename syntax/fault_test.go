package syntax_test

import (
	"slices"
	"strings"
	"testing"

	"accesscontrol/api"
	"accesscontrol/syntax"
)

// inCondition returns, for each token, whether it belongs to the condition of an if statement.
func inCondition(tokens []api.Token) []bool {
	within := false
	var l []bool
	for i, x := range tokens {
		if i > 0 && tokens[i-1].Text == "if" {
			within = true
		}
		if x.Text == "{" {
			within = false
		}
		l = append(l, within)
	}
	return l
}

// mayStand reports whether a token may stand in the place of one of a statement.
func mayStand(bad string, old api.Token, s api.Stmt, behindCondition bool) bool {
	switch bad {
	case "^":
		return behindCondition
	case "\"x\"":
		return old.Kind == api.TokString || old.Text == ";" && s.Kind == api.StmtTrans && s.Op == api.TransCreate && s.Text == ""
	}
	return false
}

// P7.1: ErrSyntax at each token of each kind of statement, if the source ends there, or something else stands there.
func TestSyntaxErrors(t *testing.T) {
	for _, x := range samples() {
		tokens := tokensOf(t, x.src)
		condition := inCondition(tokens)
		for i, old := range tokens {
			if condition[i] {
				continue
			}
			front, back := spelled(tokens[:i], " "), spelled(tokens[i+1:], " ")
			if i > 0 && old.Text != "else" { // in front of else, a statement may end
				checkFault(t, front, fault(api.ErrSyntax, 1, len(front)+1, ""))
			}
			for _, bad := range []string{"module", "7", "^", "\"x\""} {
				if !mayStand(bad, old, x.want, i > 0 && condition[i-1]) {
					want := fault(api.ErrSyntax, 1, len(front)+1, strings.Trim(bad, "\""))
					checkFault(t, front+bad+" "+back, want)
					checkFault(t, front+bad, want)
				}
			}
		}
	}
}

// P7.1: tokens that cannot stand where they do, though they stand elsewhere.
func TestOtherSyntaxErrors(t *testing.T) {
	for _, x := range []struct {
		src  string
		col  int
		name string
	}{
		{"class file { };", 14, "}"}, {"class file read;", 12, "read"}, {"class { read };", 7, "{"}, {"class file { read, write };", 18, ","}, {"class file { self };", 14, "self"}, {"class file { read }", 20, ""},
		{"type a alias b;", 14, "b"}, {"type a alias { };", 16, "}"}, {"type a alias { b } x;", 20, "x"}, {"type a, x alias { b };", 11, "alias"}, {"type a x;", 8, "x"}, {"type a,;", 8, ";"}, {"type a, x,;", 11, ";"}, {"type a, { x };", 9, "{"},
		{"type a, x y;", 11, "y"}, {"type a alias { b } alias { c };", 20, "alias"}, {"type *;", 6, "*"}, {"attribute a, b;", 12, ","}, {"attribute ;", 11, ";"},
		{"typeattribute a;", 16, ";"}, {"typeattribute a, x;", 16, ","}, {"typeattribute a { x };", 17, "{"}, {"typeattribute a x y;", 19, "y"},
		{"role r types;", 13, ";"}, {"role r a;", 8, "a"}, {"role r types { };", 16, "}"}, {"role r types self;", 14, "self"}, {"role r, s;", 7, ","},
		{"roleallow r;", 12, ";"}, {"roleallow r self;", 13, "self"}, {"roleallow r s : process;", 15, ":"},
		{"role_transition r t s;", 21, "s"}, {"role_transition r t : process;", 30, ";"}, {"role_transition r self : process s;", 19, "self"}, {"role_transition r t : process s \"x\";", 33, "x"}, {"role_transition r t : self s;", 23, "self"},
		{"user u roles r level s0 range s0;", 14, "r"}, {"user u roles { } level s0 range s0;", 16, "}"}, {"user u level s0 range s0;", 8, "level"}, {"user u roles { r } range s0;", 20, "range"}, {"user u roles { r } level s0;", 28, ";"},
		{"user u roles { r } level s0 - s1 range s0;", 29, "-"}, {"user u roles { r } level s0 : range s0;", 31, "range"}, {"user u roles { r } level s0 range s0 - ;", 40, ";"}, {"user u roles { r } level s0 range s0 - s1 - s2;", 43, "-"},
		{"user u roles { r } level s0 range s0 : c0 . ;", 45, ";"}, {"user u roles { r } level s0 range s0 : c0 . c1 . c2;", 48, "."}, {"user u roles { r } level s0 range s0 : c0 , ;", 45, ";"}, {"user u roles { r } level s0 range s0 : c0 : c1;", 43, ":"}, {"user u roles { r } level s0 range s0 . s1;", 38, "."},
		{"bool b;", 7, ";"}, {"bool b 1;", 8, "1"}, {"bool b maybe;", 8, "maybe"}, {"bool b \"true\";", 8, "true"}, {"bool b true false;", 13, "false"},
		{"sensitivity s0, s1;", 15, ","}, {"category c0 c1;", 13, "c1"}, {"\"type\" a;", 1, "type"},
		{"allow a b;", 10, ";"}, {"allow a b c : d;", 11, "c"}, {"allow a b : c;", 14, ";"}, {"allow a b : c d e;", 17, "e"}, {"allow a b : c { };", 17, "}"}, {"allow { } b : c d;", 9, "}"}, {"allow a : b c;", 9, ":"},
		{"allow self b : c d;", 7, "self"}, {"allow { a self } b : c d;", 11, "self"}, {"allow ~ { self } b : c d;", 11, "self"}, {"allow a b : self d;", 13, "self"}, {"allow a b : c self;", 15, "self"}, {"allow a b : c { d self };", 19, "self"}, {"allow a { b - self } : c d;", 15, "self"},
		{"allow a ~ self : c d;", 11, "self"}, {"allow a ~ * : c d;", 11, "*"}, {"allow a ~ ~ b : c d;", 11, "~"}, {"allow a { ~ b } : c d;", 11, "~"}, {"allow a - b : c d;", 9, "-"}, {"allow a { - * } : c d;", 13, "*"}, {"allow a { - - b } : c d;", 13, "-"}, {"allow a { b, c } : c d;", 12, ","}, {"allow a { { b } } : c d;", 11, "{"}, {"allow a \"b\" : c d;", 9, "b"}, {"allow a 7 : c d;", 9, "7"},
		{"type_transition a self : c d;", 19, "self"}, {"type_transition self b : c d;", 17, "self"}, {"type_transition a b : c;", 24, ";"}, {"type_transition a b : c { d };", 25, "{"}, {"type_transition a b : c d x;", 27, "x"}, {"type_transition a b : c d \"x\" \"y\";", 31, "y"}, {"type_transition a b : c \"x\" d;", 25, "x"},
		{"type_change a b : c d \"x\";", 23, "x"}, {"type_member a b : c d \"x\";", 23, "x"}, {"type_change a b : c d \"\";", 23, ""}, {"type_member a { self } : c d;", 17, "self"},
		{"range_transition a b : c;", 25, ";"}, {"range_transition a b : c { s0 };", 26, "{"}, {"range_transition a self : c s0;", 20, "self"},
		{"require file a;", 9, "file"}, {"require sid a;", 9, "sid"}, {"require type;", 13, ";"}, {"require type a b;", 16, "b"}, {"require type { a };", 14, "{"}, {"require class a;", 16, ";"}, {"require class a, b;", 16, ","}, {"require class a { };", 19, "}"}, {"require \"type\" a;", 9, "type"}, {"require bool true;", 14, "true"},
		{"sid k;", 6, ";"}, {"sid k u:r:t;", 12, ";"}, {"sid k u:r;", 10, ";"}, {"sid k u;", 8, ";"}, {"sid k u:r:t:s0:c0:c1;", 18, ":"}, {"sid u:r:t:s0;", 6, ":"}, {"sid k u:self:t:s0;", 9, "self"},
		{"filecon any u:r:t:s0;", 9, "any"}, {"filecon \"/\" u:r:t:s0;", 13, "u"}, {"filecon \"/\" \"any\" u:r:t:s0;", 13, "any"}, {"filecon \"/\" file u:r:t:s0;", 13, "file"}, {"filecon \"/\" any;", 16, ";"}, {"filecon \"/\" any \"/\" any;", 17, "/"},
		{"permissive a, b;", 13, ","}, {"permissive self;", 12, "self"}, {"permissive;", 11, ";"}, {"permissive a b;", 14, "b"},
		{"assert noflow a b;", 15, "a"}, {"assert n dom a b;", 10, "dom"}, {"assert n noflow a;", 18, ";"}, {"assert n noflow a self;", 19, "self"}, {"assert n noflow a b c;", 21, "c"}, {"assert n \"noflow\" a b;", 10, "noflow"},
		{"optional type a;", 10, "type"}, {"optional { }", 12, "}"}, {"optional { type a; };", 21, ";"}, {"optional { type a; } else type b;", 27, "type"}, {"optional { type a; } else { }", 29, "}"}, {"optional { type a; } else { type b; } else { type c; }", 39, "else"}, {"optional { type a;", 19, ""}, {"optional x { type a; }", 10, "x"}, {"optional { module m 1; }", 12, "module"},
		{"if x { }", 8, "}"}, {"if x y { type a; }", 6, "y"}, {"if x permissive a;", 6, "permissive"}, {"if x) { type a; }", 5, ")"}, {"if x { type a; } else if y { type b; }", 23, "if"}, {"if x { type a; } else { type b; };", 34, ";"}, {"else { type a; }", 1, "else"}, {"type a; }", 9, "}"}, {"any a;", 1, "any"}, {"; type a;", 1, ";"}, {"{ type a; }", 1, "{"},
	} {
		checkFault(t, x.src, fault(api.ErrSyntax, 1, x.col, x.name))
	}
}

// P7.1: the syntax of expressions of constraints.
func TestConstraintErrors(t *testing.T) {
	for _, x := range []struct {
		src  string
		col  int
		name string
	}{
		{"", 1, ""}, {"u1", 3, ""}, {"u1 u2", 4, "u2"}, {"u1 ==", 6, ""}, {"u1 == x", 7, "x"}, {"x == u1", 1, "x"}, {"u0 == u1", 1, "u0"}, {"u4 == u1", 1, "u4"}, {"u1 == u", 7, "u"}, {"u1 == u11", 7, "u11"}, {"U1 == u2", 1, "U1"}, {"u1 == x1", 7, "x1"},
		{"u1 in", 6, ""}, {"u1 in { }", 9, "}"}, {"u1 in { a, b }", 10, ","}, {"u1 in { a - b }", 11, "-"}, {"u1 in *", 7, "*"}, {"u1 in self", 7, "self"}, {"u1 in ~ a", 7, "~"}, {"u1 in { a", 10, ""}, {"u1 in a b", 9, "b"}, {"u1 in \"a\"", 7, "a"}, {"a in u1", 1, "a"}, {"u1 in { { a } }", 9, "{"}, {"u1 != in", 7, "in"},
		{"u1 && u2", 4, "&&"}, {"u1 == u2 u1", 10, "u1"}, {"u1 == u2 &&", 12, ""}, {"u1 == u2 || && u1 == u2", 13, "&&"}, {"|| u1 == u2", 1, "||"}, {"u1 == u2 ^ u1 == u2", 10, "^"}, {"u1 == u2 == u1", 10, "=="}, {"u1 == ! u2", 7, "!"}, {"! u1", 5, ""}, {"!", 2, ""}, {"u1 ! u2", 4, "!"}, {"u1 == (u2)", 7, "("}, {"(u1) == u2", 4, ")"},
		{"(u1 == u2", 10, ""}, {"u1 == u2)", 9, ")"}, {"()", 2, ")"}, {"(u1 == u2 u1", 11, "u1"}, {"((u1 == u2)", 12, ""}, {"u1 dom", 7, ""}, {"u1 domby 2", 10, "2"}, {"u1 \"dom\" u2", 4, "dom"}, {"\"u1\" == u2", 1, "u1"}, {"u1 == \"u2\"", 7, "u2"}, {"u1 dominates u2", 4, "dominates"},
	} {
		for _, validate := range []bool{false, true} {
			if e, f := syntax.Constraint(x.src, validate); f != fault(api.ErrSyntax, 1, x.col, x.name) || e.Op != 0 || len(e.Kids) != 0 {
				t.Errorf("Constraint(%q, %v): got %v, %v", x.src, validate, e, f)
			}
		}
		name := x.name
		if x.col == len(x.src)+1 {
			name = ";"
		}
		for _, front := range []string{"constrain c p\n", "validatetrans c\n"} {
			checkFault(t, front+x.src+";", fault(api.ErrSyntax, 2, x.col, name))
		}
	}
	for _, context := range []string{"u3", "r3", "t3", "l3", "h3"} {
		for _, src := range []string{context + " == u1", "u1 == " + context, context + " in a", "u1 == u2 && ! (u1 in " + context + " || " + context + " dom l1)"} {
			if _, f := syntax.Constraint(src, true); f != (api.Fault{}) {
				t.Errorf("Constraint(%q, true): got %v", src, f)
			}
			want := fault(api.ErrSyntax, 1, strings.LastIndex(src, context)+1, context) // behind in, it is a name
			if _, f := syntax.Constraint(src, false); f != want {
				t.Errorf("Constraint(%q, false): got %v, want %v", src, f, want)
			}
			checkFault(t, "constrain c p\n"+src+";", moved(want, 1))
		}
	}
}

// P7.1: ErrName for strings.
func TestStrings(t *testing.T) {
	long := strings.Repeat("x", api.MaxName)
	for _, s := range []string{"x", "!", "~", long, ".", "..", "a-b", "#", "\\", "{;}", "module", "7", "*"} {
		l, f := syntax.Statements("type_transition a b : c d \"" + s + "\";")
		if f != (api.Fault{}) || l[0].Text != s {
			t.Errorf("type_transition with %q: got %v, %v", s, l, f)
		}
	}
	for _, s := range []string{"", " ", "a b", " a", "a ", "/", "a/b", "/a", long + "x", strings.Repeat("x", api.MaxPath)} {
		checkFault(t, "type_transition a b : c d \""+s+"\";", fault(api.ErrName, 1, 27, s))
		checkFault(t, "type_transition a b : c d \""+s+"\" module", fault(api.ErrName, 1, 27, s))
	}
	for _, s := range []string{" ", "/", "a b", "x", strings.Repeat("/", api.MaxPath)} {
		l, f := syntax.Statements("filecon \"" + s + "\" link u:r:t:s0;")
		if f != (api.Fault{}) || l[0].Text != s {
			t.Errorf("filecon with %q: got %v, %v", s, l, f)
		}
	}
	checkFault(t, "filecon \"\" any u:r:t:s0;", fault(api.ErrName, 1, 9, ""))
	checkFault(t, "filecon \"\" module", fault(api.ErrName, 1, 9, ""))
	checkFault(t, "type a \"\";", fault(api.ErrSyntax, 1, 8, ""))
}

// P7.1: the first token with an error counts, whatever its error is.
func TestFirstFault(t *testing.T) {
	deep := "u1 == u2" + strings.Repeat(" && u1 == u2", api.MaxNest)
	for _, x := range []struct {
		src  string
		want api.Fault
	}{
		{"filecon \"\" any; type type;", fault(api.ErrName, 1, 9, "")},
		{"type type; filecon \"\" any;", fault(api.ErrSyntax, 1, 6, "type")},
		{"if ! { filecon \"\" any; }", fault(api.ErrSyntax, 1, 6, "")},
		{"if !!!!!!!!!!!!!x { type type; }", fault(api.ErrLong, 1, 16, "")},
		{"type type; if !!!!!!!!!!!!!x { type a; }", fault(api.ErrSyntax, 1, 6, "type")},
		{"if a||a||a||a||a||a||a||a||a||a||a||a||a type", fault(api.ErrLong, 1, 4, "")},
		{"constrain c p " + deep + " type", fault(api.ErrLong, 1, 15, "u1")},
		{"constrain c p " + deep + " && type", fault(api.ErrSyntax, 1, 15+len(deep)+4, "type")},
		{"constrain c p (" + deep, fault(api.ErrSyntax, 1, 16+len(deep), "")},
		{"constrain c p (" + deep + ")", fault(api.ErrLong, 1, 15, "(")},
		{"constrain c p u3 == u2 && " + deep, fault(api.ErrSyntax, 1, 15, "u3")},
		{"validatetrans c ! (" + deep + "); type type;", fault(api.ErrLong, 1, 17, "!")},
	} {
		checkFault(t, x.src, x.want)
	}
	checkModuleFault(t, "module m 10000 type type;", fault(api.ErrRange, 1, 10, "10000"))
	checkModuleFault(t, "module type 10000;", fault(api.ErrSyntax, 1, 8, "type"))
}

// P7.1: what stands behind a fault does not change it, and what stands in front of an ErrSyntax has none but at its end.
func TestFaultsFromLeftToRight(t *testing.T) {
	all := samples()
	extra := strings.Fields("{ } ( ) ; : , . - ~ * ! == != && || ^ self in module else type a 7 u1 dom \"x\" \"\"")
	for seed := range 3000 {
		pick := picker(seed)
		var words []string
		for range 1 + pick(3) {
			for _, x := range tokensOf(t, all[pick(len(all))].src) {
				words = append(words, spell(x))
			}
		}
		for range 1 + pick(2) {
			i := pick(len(words) + 1)
			end := min(len(words), i+pick(2))
			words = slices.Replace(words, i, end, extra[pick(len(extra))])
		}
		f := statementsFault(words)
		if f.Code == api.OK {
			continue
		}
		for n := range len(words) {
			got := statementsFault(words[:n])
			if n >= f.Pos.Line && got != f {
				t.Errorf("%q: got %v, but %v for %d words", words, f, got, n)
			}
			if n < f.Pos.Line && got.Code != api.OK && (got.Code != api.ErrSyntax || got.Pos.Line != n+1) {
				t.Errorf("%q: got %v, but %v for %d words", words, f, got, n)
			}
		}
	}
}

// statementsFault returns the fault of statements in which each word stands on a line of its own.
func statementsFault(words []string) api.Fault {
	_, f := syntax.Statements(strings.Join(words, "\n") + "\n")
	return f
}
