package compiler_test

import (
	"strings"
	"testing"

	"accesscontrol/api"
	"accesscontrol/compiler"
	"accesscontrol/token"
)

// respaced returns a source with the same tokens, which are separated in another way.
func (pick picker) respaced(t *testing.T, src string) string {
	t.Helper()
	l, f := token.Scan(src)
	if f.Code != api.OK {
		t.Fatalf("Scan(%q): got %v", src, f)
	}
	var b strings.Builder
	for _, x := range l {
		b.WriteString([]string{" ", "\n", "\t", "# a comment; type \"\n", "  ", "\n\n", "\t#\n"}[pick(7)])
		if x.Kind == api.TokString {
			x.Text = "\"" + x.Text + "\""
		}
		b.WriteString(x.Text)
	}
	return b.String()
}

// P23.7: comments, and what separates tokens, change only the positions of faults.
func TestSpaces(t *testing.T) {
	count := map[bool]int{}
	for seed := range 1000 {
		pick := newPicker(seed)
		src := pick.sources()
		p, n, f := compiler.Compile(src)
		var other []string
		for _, s := range src {
			other = append(other, pick.respaced(t, s))
		}
		q, k, g := compiler.Compile(other)
		f.Pos, g.Pos = api.Pos{}, api.Pos{}
		if n != k || f != g || !compiler.Equal(p, q) {
			t.Errorf("seed %d: got %s, %d, %v, want %s, %d, %v", seed, brief(q), k, g, brief(p), n, f)
		}
		count[f.Code == api.OK]++
	}
	if min(count[true], count[false]) < 100 {
		t.Errorf("got %v", count)
	}
}

// P23.6, P23.7: the same sources always have the same policy, which shares no memory with another one.
func TestAgain(t *testing.T) {
	p, q := compiled(t, small), compiled(t, small)
	p.Classes[0].Perms[0], p.Types[0].Name, p.Conds[0].Op, p.Rules[0].Perms = "x", "x", 99, 99
	if !compiler.Equal(q, compiled(t, small)) || compiler.Equal(p, q) {
		t.Errorf("got %s", brief(q))
	}
}
