package token_test

import (
	"slices"
	"strings"
	"testing"

	"accesscontrol/api"
	"accesscontrol/token"
)

// sources returns all sources with at most so many of the letters.
func sources(letters []string, most int) []string {
	l := []string{""}
	for begin, n := 0, 0; n < most; n++ {
		end := len(l)
		for _, s := range l[begin:end] {
			for _, c := range letters {
				l = append(l, s+c)
			}
		}
		begin = end
	}
	return l
}

// letters begin, continue and end tokens of each kind, and faults of each code but ErrLong.
func letters() []string {
	return []string{"a", "0", "7", " ", "\n", "#", "\"", "=", "!", "&", ";", "\xe9", strings.Repeat("n", api.MaxName), "123456789"}
}

// P2.6: what Scan returns passes Check, stands at its position, and ascends; the end is behind the last byte.
func TestScanPositions(t *testing.T) {
	for _, src := range sources(letters(), 4) {
		l, f := token.Scan(src)
		if f.Code != api.OK {
			if f.Pos == (api.Pos{}) || f.Name != "" || len(l) != 0 {
				t.Errorf("Scan(%q): got %v, %v", src, l, f)
			}
			continue
		}
		if f != (api.Fault{}) || len(l) == 0 {
			t.Errorf("Scan(%q): got %v, %v", src, l, f)
			continue
		}
		from := 0
		for _, x := range l {
			from = findToken(src, from, x)
			if from < 0 || !token.Check(x) {
				t.Errorf("Scan(%q): %v fails Check, or does not stand there", src, x)
				break
			}
		}
		if from != len(src) {
			t.Errorf("Scan(%q): %v ends at %d", src, l, from)
		}
	}
}

// findToken returns the index behind a token that stands at its position, not before the index from, or -1.
func findToken(src string, from int, x api.Token) int {
	text := x.Text
	if x.Kind == api.TokString {
		text = "\"" + text + "\""
	}
	for i := from; i <= len(src); i++ {
		if token.Locate(src, i) == x.Pos && strings.HasPrefix(src[i:], text) {
			return i + len(text)
		}
	}
	return -1
}

// P2.6: Scan of what Text returns gives the tokens.
func TestTextAndBack(t *testing.T) {
	for _, src := range sources(letters(), 4) {
		l, f := token.Scan(src)
		if f.Code != api.OK {
			continue
		}
		s, e := token.Text(l)
		back, f := token.Scan(s)
		if e != api.OK || f != (api.Fault{}) || !token.Same(back, l) {
			t.Errorf("Text(%v): got %q, %v, which Scan reads as %v, %v", l, s, e, back, f)
		}
	}
}

// P2.6: tokens that no source gave come back with TokEnd at the end.
func TestTextOfAnyTokens(t *testing.T) {
	var l []api.Token
	for kind := api.TokName; kind <= api.TokMark; kind++ {
		for _, s := range properTexts()[kind] {
			l = append(l, api.Token{Kind: kind, Text: s})
		}
	}
	for _, a := range l {
		for _, b := range l {
			s, e := token.Text([]api.Token{a, b})
			back, f := token.Scan(s)
			if want := []api.Token{a, b, {}}; e != api.OK || f != (api.Fault{}) || !token.Same(back, want) {
				t.Errorf("Text(%v, %v): got %q, %v, which Scan reads as %v, %v", a, b, s, e, back, f)
			}
		}
	}
}

// P2.6: blanks and comments between tokens do not change the tokens.
func TestBlanksBetweenTokens(t *testing.T) {
	parts := []string{"a", "12", "\"x # y\"", "{", "!", "==", "&&", "b_2", "0", "\"\"", ";", "!=", "||", "-"}
	want, _ := token.Scan(strings.Join(parts, " "))
	if len(want) != len(parts)+1 {
		t.Fatalf("Scan(%q): got %v", strings.Join(parts, " "), want)
	}
	for _, gap := range []string{"  ", "\t", "\n", "\n\n\t ", "#\n", " # a \" b\n", "#1\n#2\xff\x00\n"} {
		src := gap + strings.Join(parts, gap) + gap
		got, f := token.Scan(src)
		if f != (api.Fault{}) || !token.Same(got, want) {
			t.Errorf("Scan(%q): got %v, %v", src, got, f)
		}
	}
}

// P2.6: two sources, with a line feed between them.
func TestTwoSources(t *testing.T) {
	for _, a := range sources(letters(), 2) {
		first, f := token.Scan(a)
		if f.Code != api.OK {
			continue
		}
		lines := strings.Count(a, "\n") + 1
		for _, b := range sources(letters(), 2) {
			second, want := token.Scan(b)
			got, f := token.Scan(a + "\n" + b)
			if want.Code != api.OK {
				want.Pos.Line += lines
				if f != want || len(got) != 0 {
					t.Errorf("Scan(%q): got %v, %v, want %v", a+"\n"+b, got, f, want)
				}
				continue
			}
			both := slices.Concat(first[:len(first)-1], second)
			for i := len(first) - 1; i < len(both); i++ {
				both[i].Pos.Line += lines
			}
			if f != (api.Fault{}) || !slices.Equal(got, both) {
				t.Errorf("Scan(%q): got %v, %v, want %v", a+"\n"+b, got, f, both)
			}
		}
	}
}
