package token_test

import (
	"math"
	"slices"
	"strings"
	"testing"

	"accesscontrol/api"
	"accesscontrol/token"
)

// keywords are those of the document.
const keywords = "module class type alias typeattribute attribute role types roleallow role_transition user roles level range bool true false sensitivity category allow auditallow dontaudit neverallow type_transition type_change type_member range_transition constrain validatetrans if else optional require sid filecon permissive assert self in"

// P2.2: Keyword and Identifier.
func TestKeyword(t *testing.T) {
	words := strings.Fields(keywords)
	for _, w := range words {
		if !token.Keyword(w) || token.Identifier(w) {
			t.Errorf("%s: Keyword %v, Identifier %v", w, token.Keyword(w), token.Identifier(w))
		}
		for _, x := range []string{w + "_", "_" + w, w[1:], w[:len(w)-1], strings.ToUpper(w), w + w} {
			if !slices.Contains(words, x) && (token.Keyword(x) || token.Identifier(x) != (x != "")) {
				t.Errorf("%s: Keyword %v, Identifier %v", x, token.Keyword(x), token.Identifier(x))
			}
		}
		for _, x := range []string{" " + w, w + " ", w + "#", w + "\n", w + ";"} {
			if token.Keyword(x) || token.Identifier(x) {
				t.Errorf("%q: Keyword %v, Identifier %v", x, token.Keyword(x), token.Identifier(x))
			}
		}
	}
	notReserved := "any regular directory link socket noflow nodomain separate u1 r1 t1 l1 h1 u2 r2 t2 l2 h2 u3 r3 t3 l3 h3 dom domby incomp object_r kernel root unlabeled process file"
	for _, w := range strings.Fields(notReserved) {
		if token.Keyword(w) || !token.Identifier(w) {
			t.Errorf("%s: Keyword %v, Identifier %v", w, token.Keyword(w), token.Identifier(w))
		}
	}
}

// P2.2: Identifier.
func TestIdentifier(t *testing.T) {
	most := strings.Repeat("Z", api.MaxName)
	for _, s := range []string{"a", "Z", "_", "a1", "__", "z9_", most, "_" + most[1:]} {
		if !token.Identifier(s) {
			t.Errorf("Identifier(%q): got false", s)
		}
	}
	for _, s := range []string{"", "1", "1a", "a-b", "a b", "a;", "é", "aé", "a\x00", "\"a\"", "*", most + "Z", strings.Repeat("a", api.MaxSource+1)} {
		if token.Identifier(s) {
			t.Errorf("Identifier(%.80q): got true", s)
		}
	}
}

// properTexts are texts of each kind that the document permits.
func properTexts() map[int][]string {
	return map[int][]string{
		api.TokEnd:    {""},
		api.TokName:   {"a", "_", "Z9_", "allow", "self", "u1", strings.Repeat("n", api.MaxName)},
		api.TokNumber: {"0", "1", "9", "10", "123456789", "999999999"},
		api.TokString: {"", "a", " ", "~", "#", "0", "\\", "{ }", "a b", "1", strings.Repeat("x", api.MaxPath)},
		api.TokMark:   allMarks(),
	}
}

// improperTexts are texts of each kind that it does not permit.
func improperTexts() map[int][]string {
	return map[int][]string{
		api.TokEnd:    {" ", "\n", "a", "#", "0", ";", "\"\""},
		api.TokName:   {"", "1", "1a", " a", "a ", "a#", "#a", "\na", "a-b", "a b", "\"a\"", ";", "é", "a\x00", strings.Repeat("n", api.MaxName+1)},
		api.TokNumber: {"", "00", "01", "000000000", "-1", "+1", "1 ", " 1", "1a", "a1", "1.5", "1#", "1234567890", "0000000000", "\"1\""},
		api.TokString: {"\"", "\"\"", "a\"", "\"a", "a\"b", "a\" \"b", "a\"#", "\x1f", "\x7f", "a\n", "\t", "é", "\x00", strings.Repeat("x", api.MaxPath+1)},
		api.TokMark:   {"", "=", "&", "|", "===", "!==", "; ", " ;", ";;", ";#", "{}", "\"", "#", "$", "/", "<", ">", "[", "a", "_", "0", "+", "@", "é", "\x00"},
	}
}

// P2.2: Check.
func TestCheck(t *testing.T) {
	positions := []api.Pos{{}, {Line: 7, Col: 9}, {Line: -1, Col: math.MinInt}}
	for kind, l := range properTexts() {
		for _, s := range l {
			for _, p := range positions {
				if x := (api.Token{Kind: kind, Text: s, Pos: p}); !token.Check(x) {
					t.Errorf("Check(%v): got false", x)
				}
			}
			for _, kind := range []int{-1, 5, 9, math.MinInt, math.MaxInt} {
				if x := (api.Token{Kind: kind, Text: s}); token.Check(x) {
					t.Errorf("Check(%v): got true", x)
				}
			}
		}
	}
	for kind, l := range improperTexts() {
		for _, s := range l {
			for _, p := range positions {
				if x := (api.Token{Kind: kind, Text: s, Pos: p}); token.Check(x) {
					t.Errorf("Check(%v): got true", x)
				}
			}
		}
	}
}

// P2.2: Check of each single byte as a mark and in a string.
func TestCheckBytes(t *testing.T) {
	for b := range 256 {
		s := string([]byte{byte(b)})
		if got := token.Check(api.Token{Kind: api.TokMark, Text: s}); got != slices.Contains(allMarks(), s) {
			t.Errorf("Check of the mark %q: got %v", s, got)
		}
		if got := token.Check(api.Token{Kind: api.TokString, Text: "x" + s}); got != (b >= 32 && b <= 126 && b != '"') {
			t.Errorf("Check of the string %q: got %v", "x"+s, got)
		}
	}
}

func checkText(t *testing.T, l []api.Token, text string, code api.Errno) {
	t.Helper()
	if s, e := token.Text(l); s != text || e != code {
		t.Errorf("Text(%.80v): got %.80q, %v, want %.80q, %v", l, s, e, text, code)
	}
}

// P2.3: Text, its end, and ErrArg.
func TestText(t *testing.T) {
	a, bad := name("a", 5, 5), number("01", 1, 1)
	checkText(t, nil, "", api.OK)
	checkText(t, []api.Token{}, "", api.OK)
	checkText(t, []api.Token{end(1, 1)}, "", api.OK)
	checkText(t, []api.Token{a}, "a", api.OK)
	checkText(t, []api.Token{a, a}, "a a", api.OK)
	checkText(t, []api.Token{a, mark("{", 0, 0), str("x y", 0, 0)}, `a { "x y"`, api.OK)
	checkText(t, []api.Token{str("", 0, 0), number("0", 0, 0), name("if", 0, 0), mark("!=", 0, 0), str("#", 0, 0)}, `"" 0 if != "#"`, api.OK)
	checkText(t, []api.Token{a, mark("!", 0, 0), end(0, 0), bad, a}, "a !", api.OK)
	checkText(t, []api.Token{end(0, 0), {Kind: 9}}, "", api.OK)
	for kind, texts := range improperTexts() {
		for _, s := range texts {
			if x := (api.Token{Kind: kind, Text: s}); kind != api.TokEnd {
				checkText(t, []api.Token{x}, "", api.ErrArg)
				checkText(t, []api.Token{a, x, a, end(0, 0)}, "", api.ErrArg)
			}
		}
	}
	checkText(t, []api.Token{a, {Kind: 5, Text: "a"}}, "", api.ErrArg)
	checkText(t, []api.Token{{Kind: -1}, end(0, 0)}, "", api.ErrArg)
}

// P2.3: ErrLong, which comes after ErrArg.
func TestTextLength(t *testing.T) {
	l := slices.Repeat([]api.Token{mark(";", 0, 0)}, api.MaxSource/2)
	most := strings.Repeat("; ", api.MaxSource/2-1) + ";"
	checkText(t, l, most, api.OK)
	full := slices.Concat(l[:len(l)-1], []api.Token{mark("&&", 0, 0)})
	checkText(t, full, most[:len(most)-1]+"&&", api.OK)
	checkText(t, append(full, end(0, 0), mark(";", 0, 0)), most[:len(most)-1]+"&&", api.OK)
	long := slices.Concat(l[:len(l)-1], []api.Token{name("abc", 0, 0)})
	checkText(t, long, "", api.ErrLong)
	checkText(t, slices.Concat(l[:len(l)-1], []api.Token{str("a", 0, 0)}), "", api.ErrLong)
	checkText(t, append(l, mark(";", 0, 0)), "", api.ErrLong)
	checkText(t, append(long, end(0, 0)), "", api.ErrLong)
	checkText(t, slices.Concat(l, l, []api.Token{{Kind: api.TokMark}}), "", api.ErrArg)
}

// P2.3: the argument of Text is not changed.
func TestTextKeepsTokens(t *testing.T) {
	l := []api.Token{name("a", 1, 2), str("b", 3, 4), end(5, 6), {Kind: 9}}
	old := slices.Clone(l)
	token.Text(l)
	if !slices.Equal(l, old) {
		t.Errorf("Text changed its argument to %v", l)
	}
}

// P2.4: Same.
func TestSame(t *testing.T) {
	a := []api.Token{name("a", 1, 1), mark("=", 1, 2), {Kind: 9, Text: "\n"}, end(1, 3)}
	moved := []api.Token{name("a", 4, 4), mark("=", 0, 0), {Kind: 9, Text: "\n", Pos: api.Pos{Line: -1}}, end(9, 9)}
	for _, x := range []struct {
		a, b []api.Token
		want bool
	}{
		{nil, nil, true},
		{nil, []api.Token{}, true},
		{nil, a, false},
		{a, a, true},
		{a, moved, true},
		{a, a[:3], false},
		{a[:3], a, false},
		{a, append(slices.Clone(a), end(1, 4)), false},
		{[]api.Token{name("a", 1, 1)}, []api.Token{name("b", 1, 1)}, false},
		{[]api.Token{name("a", 1, 1)}, []api.Token{str("a", 1, 1)}, false},
		{[]api.Token{name("a", 1, 1), mark(";", 1, 1)}, []api.Token{mark(";", 1, 1), name("a", 1, 1)}, false},
		{[]api.Token{end(1, 1)}, nil, false},
		{[]api.Token{{Kind: 9}}, []api.Token{{Kind: 8}}, false},
	} {
		if got := token.Same(x.a, x.b); got != x.want {
			t.Errorf("Same(%v, %v): got %v", x.a, x.b, got)
		}
		if got := token.Same(x.b, x.a); got != x.want {
			t.Errorf("Same(%v, %v): got %v", x.b, x.a, got)
		}
	}
}

// P2.5: Locate.
func TestLocate(t *testing.T) {
	for _, x := range []struct {
		src       string
		i         int
		line, col int
	}{
		{"", 0, 1, 1},
		{"", 1, 0, 0},
		{"", -1, 0, 0},
		{"a\nb", 0, 1, 1},
		{"a\nb", 1, 1, 2},
		{"a\nb", 2, 2, 1},
		{"a\nb", 3, 2, 2},
		{"a\nb", 4, 0, 0},
		{"a\nb", -1, 0, 0},
		{"a\nb", math.MaxInt, 0, 0},
		{"a\nb", math.MinInt, 0, 0},
		{"\n\n", 1, 2, 1},
		{"\n\n", 2, 3, 1},
		{"a\r\tb", 3, 1, 4},
		{"é\"\n#x", 2, 1, 3},
		{"é\"\n#x", 5, 2, 2},
		{"\"\x00\xff=", 4, 1, 5},
		{strings.Repeat("\n", api.MaxSource+9) + "ab", api.MaxSource + 10, api.MaxSource + 10, 2},
	} {
		if got := token.Locate(x.src, x.i); got != (api.Pos{Line: x.line, Col: x.col}) {
			t.Errorf("Locate(%.80q, %d): got %v", x.src, x.i, got)
		}
	}
}
