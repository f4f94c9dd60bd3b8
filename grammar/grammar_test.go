package grammar_test

import (
	"slices"
	"strings"
	"testing"

	"accesscontrol/api"
	"accesscontrol/grammar"
	"accesscontrol/token"
)

// sorts returns the words of each sort, from the first number that has one.
func sorts() map[grammar.Sort]struct {
	first int
	words string
} {
	type row = struct {
		first int
		words string
	}
	return map[grammar.Sort]row{
		grammar.Statements:  {api.StmtClass, "class type attribute typeattribute role roleallow role_transition user bool sensitivity category - - range_transition constrain validatetrans if optional require sid filecon permissive assert"},
		grammar.Rules:       {api.RuleAllow, "allow auditallow dontaudit neverallow"},
		grammar.Transitions: {api.TransCreate, "type_transition type_change type_member"},
		grammar.Symbols:     {api.SymClass, "class type attribute role user bool sensitivity category"},
		grammar.Files:       {api.FileAny, "any regular directory link socket"},
		grammar.Asserts:     {api.AssertNoFlow, "noflow nodomain separate"},
		grammar.Attributes:  {api.AttrUser, "u1 r1 t1 l1 h1 u2 r2 t2 l2 h2 u3 r3 t3 l3 h3"},
		grammar.Relations:   {api.RelSame, "== != dom domby incomp"},
	}
}

// Each word stands for one number, and no other number has a word.
func TestWords(t *testing.T) {
	for sort, x := range sorts() {
		words := strings.Fields(x.words)
		for n := -3; n < x.first+len(words)+3; n++ {
			want := ""
			if n >= x.first && n < x.first+len(words) && words[n-x.first] != "-" {
				want = words[n-x.first]
			}
			if got := grammar.Word(sort, n); got != want {
				t.Errorf("Word(%d, %d): got %q, want %q", sort, n, got, want)
			}
			if got, ok := grammar.Number(sort, want); want != "" && (got != n || !ok) {
				t.Errorf("Number(%d, %q): got %d, %v", sort, want, got, ok)
			}
		}
		for _, other := range sorts() {
			for _, w := range append(strings.Fields(other.words), "", "a", "CLASS", "u0", "u4", "class ") {
				if n, ok := grammar.Number(sort, w); (w == "-" || !slices.Contains(words, w)) && (n != 0 || ok) {
					t.Errorf("Number(%d, %q): got %d, %v", sort, w, n, ok)
				}
			}
		}
	}
	for _, sort := range []grammar.Sort{-1, grammar.Relations + 1} {
		if n, ok := grammar.Number(sort, "class"); n != 0 || ok || grammar.Word(sort, 1) != "" {
			t.Errorf("the sort %d has words", sort)
		}
	}
}

// The words at the beginning of statements are reserved, those for kinds, attributes and relations are not.
func TestReserved(t *testing.T) {
	for sort, x := range sorts() {
		reserved := sort <= grammar.Symbols
		for _, w := range strings.Fields(x.words) {
			if w != "-" && token.Keyword(w) != reserved {
				t.Errorf("the word %s: reserved %v", w, token.Keyword(w))
			}
		}
	}
}

// An object's name has 1 to MaxName bytes from 33 to 126, without the slash and the double quote.
func TestObjectName(t *testing.T) {
	for c := range 256 {
		want := c >= 33 && c <= 126 && c != '/' && c != '"'
		for _, s := range []string{string([]byte{byte(c)}), "a" + string([]byte{byte(c)}), string([]byte{byte(c)}) + "a"} {
			if grammar.ObjectName(s) != want {
				t.Errorf("ObjectName(%q): got %v", s, !want)
			}
		}
	}
	for n := range 2 * api.MaxName {
		if s := strings.Repeat(".", n); grammar.ObjectName(s) != (n >= 1 && n <= api.MaxName) {
			t.Errorf("ObjectName(%q): got %v", s, grammar.ObjectName(s))
		}
	}
}
