package boolexp_test

import (
	"strings"
	"testing"

	"accesscontrol/api"
	"accesscontrol/boolexp"
	"accesscontrol/token"
)

func checkText(t *testing.T, e api.Expr, want string) {
	t.Helper()
	if s, c := boolexp.Text(e); s != want || c != api.OK {
		t.Errorf("Text(%.200s): got %q, %v, want %q", show(e), s, c, want)
	}
}

// P6.3: Text of conditions, and Parse of these texts.
func TestText(t *testing.T) {
	a, b, c, d := name("a"), name("b"), name("c"), name("d")
	for _, x := range []struct {
		e    api.Expr
		want string
	}{
		{a, "a"}, {not(a), "!a"}, {not(not(a)), "!!a"}, {and(a, b), "a && b"}, {or(a, b), "a || b"}, {xor(a, b), "a ^ b"}, {same(a, b), "a == b"}, {differ(a, b), "a != b"},
		{and(a, or(b, c)), "a && (b || c)"},
		{and(and(a, b), c), "a && b && c"},
		{and(a, and(b, c)), "a && (b && c)"},
		{not(same(a, b)), "!(a == b)"},
		{same(not(a), not(b)), "!a == !b"},
		{same(same(a, b), c), "a == b == c"},
		{same(a, same(b, c)), "a == (b == c)"},
		{same(differ(a, b), c), "a != b == c"},
		{differ(a, same(b, c)), "a != (b == c)"},
		{differ(and(a, b), c), "(a && b) != c"},
		{and(same(a, b), differ(c, d)), "a == b && c != d"},
		{xor(xor(a, b), xor(c, d)), "a ^ b ^ (c ^ d)"},
		{or(or(a, b), or(c, d)), "a || b || (c || d)"},
		{xor(or(a, b), or(c, d)), "(a || b) ^ (c || d)"},
		{and(xor(a, b), xor(c, d)), "(a ^ b) && (c ^ d)"},
		{or(a, xor(b, and(c, same(d, not(a))))), "a || b ^ c && d == !a"},
		{same(and(xor(or(a, b), c), d), a), "(((a || b) ^ c) && d) == a"},
		{not(and(not(or(a, not(b))), c)), "!(!(a || !b) && c)"},
	} {
		checkText(t, x.e, x.want)
		if got := parsed(t, x.want); !equalExpr(got, x.e) {
			t.Errorf("Parse(%q): got %s", x.want, show(got))
		}
	}
	for _, x := range wrong() {
		for _, e := range []api.Expr{x.e, not(x.e), and(name("a"), x.e)} {
			if s, code := boolexp.Text(e); s != "" || code != x.code {
				t.Errorf("Text(%.200s): got %q, %v, want %v", show(e), s, code, x.code)
			}
		}
	}
}

// plain returns a text of a condition in which each operand but a name stands in parentheses.
func plain(e api.Expr) string {
	marks := map[int]string{api.ExprAnd: "&&", api.ExprOr: "||", api.ExprXor: "^", api.ExprSame: "==", api.ExprDiffer: "!="}
	if e.Op == api.ExprName {
		return e.Names[0]
	}
	if e.Op == api.ExprNot {
		return "!(" + plain(e.Kids[0]) + ")"
	}
	return "(" + plain(e.Kids[0]) + ")" + marks[e.Op] + "(" + plain(e.Kids[1]) + ")"
}

// P6.4: Parse of Text of a condition is the condition, also at MaxNest.
func TestRoundTrip(t *testing.T) {
	l := append(samples(), tree(api.ExprAnd, api.MaxNest, numbered("b", 1<<11)), chain(api.MaxNest-1))
	for _, op := range binaries() {
		left, right, nots := name("a"), name("a"), name("a")
		for n := range api.MaxNest - 1 {
			left, right = binary(op, left, name("b")), binary(op, name("b"), right)
			if n%2 == 0 {
				nots = binary(op, nots, name("b"))
			} else {
				nots = not(nots)
			}
		}
		l = append(l, left, right, nots)
	}
	for _, e := range l {
		s, code := boolexp.Text(e)
		got, f := boolexp.Parse(s)
		if code != api.OK || f != (api.Fault{}) || !equalExpr(got, e) {
			t.Errorf("Parse of Text of %.200s: got %.200q, %v, %v", show(e), s, code, f)
		}
		if levels(e) > 6 {
			continue
		}
		if got := parsed(t, plain(e)); !equalExpr(got, e) {
			t.Errorf("Parse(%q): got %s", plain(e), show(got))
		}
	}
}

// P6.4: no parentheses of Text can be left out.
func TestParenthesesAreNeeded(t *testing.T) {
	for _, e := range samples() {
		s, _ := boolexp.Text(e)
		var open []int
		for i, c := range s {
			switch c {
			case '(':
				open = append(open, i)
			case ')':
				from := open[len(open)-1]
				open = open[:len(open)-1]
				less := s[:from] + s[from+1:i] + s[i+1:]
				if got, f := boolexp.Parse(less); f.Code == api.OK && equalExpr(got, e) {
					t.Errorf("Text(%s) is %q; %q is enough", show(e), s, less)
				}
			}
		}
	}
}

// P6.3: Parse; the faults in their order.
func TestParseFaults(t *testing.T) {
	at := func(code api.Errno, line, col int) api.Fault {
		return api.Fault{Code: code, Pos: api.Pos{Line: line, Col: col}}
	}
	for _, x := range []struct {
		s    string
		want api.Fault
	}{
		{"", at(api.ErrSyntax, 1, 1)},
		{" \n # a\n", at(api.ErrSyntax, 3, 1)},
		{"a &&", at(api.ErrSyntax, 1, 5)},
		{"a b", at(api.ErrSyntax, 1, 3)},
		{"a\n  b", at(api.ErrSyntax, 2, 3)},
		{"a)", at(api.ErrSyntax, 1, 2)},
		{"a !b", at(api.ErrSyntax, 1, 3)},
		{"a !", at(api.ErrSyntax, 1, 3)},
		{"a (b)", at(api.ErrSyntax, 1, 3)},
		{"a;", at(api.ErrSyntax, 1, 2)},
		{"a 1", at(api.ErrSyntax, 1, 3)},
		{"a \"b\"", at(api.ErrSyntax, 1, 3)},
		{"if", at(api.ErrSyntax, 1, 1)},
		{"a || true", at(api.ErrSyntax, 1, 6)},
		{"1", at(api.ErrSyntax, 1, 1)},
		{"\"a\"", at(api.ErrSyntax, 1, 1)},
		{"()", at(api.ErrSyntax, 1, 2)},
		{"(a", at(api.ErrSyntax, 1, 3)},
		{"(a b)", at(api.ErrSyntax, 1, 4)},
		{"(a;)", at(api.ErrSyntax, 1, 3)},
		{"((a)", at(api.ErrSyntax, 1, 5)},
		{"!", at(api.ErrSyntax, 1, 2)},
		{"! && a", at(api.ErrSyntax, 1, 3)},
		{"a == != b", at(api.ErrSyntax, 1, 6)},
		{"a && && b c", at(api.ErrSyntax, 1, 6)},
		{"a b )", at(api.ErrSyntax, 1, 3)},
		{"a = b", at(api.ErrSyntax, 1, 3)},
		{"&& a = b", at(api.ErrSyntax, 1, 6)},
		{"a a\n \"", at(api.ErrShort, 2, 2)},
		{"a 007", at(api.ErrSyntax, 1, 3)},
		{"a b 1234567890", at(api.ErrRange, 1, 5)},
		{strings.Repeat("n", api.MaxName+1), at(api.ErrName, 1, 1)},
		{strings.Repeat(" ", api.MaxSource) + "a", api.Fault{Code: api.ErrLong}},
		{strings.Repeat(" ", api.MaxSource-1) + "a", api.Fault{}},
	} {
		if e, f := boolexp.Parse(x.s); f != x.want || f.Code != api.OK && !equalExpr(e, api.Expr{}) {
			t.Errorf("Parse(%.80q): got %s, %v, want %v", x.s, show(e), f, x.want)
		}
	}
	if got := parsed(t, "a || b && !c ^ d"); !equalExpr(got, or(name("a"), xor(and(name("b"), not(name("c"))), name("d")))) {
		t.Errorf("got %s", show(got))
	}
}

// P6.3: conditions at the limits of nesting.
func TestParseNesting(t *testing.T) {
	open, nots, both := strings.Repeat("(", 12), strings.Repeat("!", 11), strings.Repeat("!(", 6)
	right := strings.Repeat("a&&(", 11)
	for s, want := range map[string]api.Fault{
		open + "a" + strings.Repeat(")", 12):      {},
		open + "(a" + strings.Repeat(")", 13):     {Code: api.ErrLong, Pos: api.Pos{Line: 1, Col: 13}},
		open + "!a" + strings.Repeat(")", 12):     {Code: api.ErrLong, Pos: api.Pos{Line: 1, Col: 13}},
		open + "a || !a":                          {Code: api.ErrLong, Pos: api.Pos{Line: 1, Col: 18}},
		open + "a) || !a":                         {Code: api.ErrSyntax, Pos: api.Pos{Line: 1, Col: 21}},
		open + "a b (":                            {Code: api.ErrSyntax, Pos: api.Pos{Line: 1, Col: 15}},
		open + ")":                                {Code: api.ErrSyntax, Pos: api.Pos{Line: 1, Col: 13}},
		nots + "a":                                {},
		nots + "!a":                               {Code: api.ErrLong, Pos: api.Pos{Line: 1, Col: 1}},
		" \n " + nots + "!a":                      {Code: api.ErrLong, Pos: api.Pos{Line: 2, Col: 2}},
		nots + "!a b":                             {Code: api.ErrLong, Pos: api.Pos{Line: 1, Col: 1}},
		nots + "!if":                              {Code: api.ErrSyntax, Pos: api.Pos{Line: 1, Col: 13}},
		nots + "!!a":                              {Code: api.ErrLong, Pos: api.Pos{Line: 1, Col: 13}},
		nots + "!(a)":                             {Code: api.ErrLong, Pos: api.Pos{Line: 1, Col: 13}},
		nots + "(a)":                              {},
		nots + "((a))":                            {Code: api.ErrLong, Pos: api.Pos{Line: 1, Col: 13}},
		nots + "(a && b)":                         {Code: api.ErrLong, Pos: api.Pos{Line: 1, Col: 1}},
		nots + "a && " + nots + "b":               {Code: api.ErrLong, Pos: api.Pos{Line: 1, Col: 1}},
		nots[1:] + "a && " + nots[1:] + "b":       {},
		both + "a" + strings.Repeat(")", 6):       {},
		both + "!a" + strings.Repeat(")", 6):      {Code: api.ErrLong, Pos: api.Pos{Line: 1, Col: 13}},
		right + "b" + strings.Repeat(")", 11):     {},
		right + "b&&c" + strings.Repeat(")", 11):  {Code: api.ErrLong, Pos: api.Pos{Line: 1, Col: 1}},
		right + "((b))" + strings.Repeat(")", 11): {Code: api.ErrLong, Pos: api.Pos{Line: 1, Col: 46}},
		"a" + strings.Repeat("||a", 11):           {},
		"a" + strings.Repeat("||a", 12):           {Code: api.ErrLong, Pos: api.Pos{Line: 1, Col: 1}},
		"a" + strings.Repeat("==a", 11):           {},
		"a" + strings.Repeat("!=a", 12):           {Code: api.ErrLong, Pos: api.Pos{Line: 1, Col: 1}},
		"a" + strings.Repeat("^a", 20000):         {Code: api.ErrLong, Pos: api.Pos{Line: 1, Col: 1}},
		"a" + strings.Repeat("^a", 20000) + "^":   {Code: api.ErrSyntax, Pos: api.Pos{Line: 1, Col: 40003}},
		"(a)" + strings.Repeat("&&(a)", 11):       {},
		strings.Repeat("!", 11) + "a||" + strings.Repeat("a&&", 9): {Code: api.ErrSyntax, Pos: api.Pos{Line: 1, Col: 42}},
	} {
		if e, f := boolexp.Parse(s); f != want || f.Code != api.OK && !equalExpr(e, api.Expr{}) {
			t.Errorf("Parse(%.80q): got %.200s, %v, want %v", s, show(e), f, want)
		}
	}
}

// P6.3: Parse of a text is Parse of its tokens with one space between them.
func TestParseBlanks(t *testing.T) {
	for _, s := range []string{"a&&b||!c", "# x\n(a\t)\n==b # &&", "!!(a!=b)^c"} {
		l, _ := token.Scan(s)
		spaced, _ := token.Text(l)
		if !equalExpr(parsed(t, s), parsed(t, spaced)) {
			t.Errorf("Parse(%q) is not Parse(%q)", s, spaced)
		}
	}
}
