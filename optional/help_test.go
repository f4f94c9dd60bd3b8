package optional_test

import (
	"fmt"
	"slices"
	"strconv"
	"strings"
	"testing"

	"accesscontrol/api"
	"accesscontrol/optional"
	"accesscontrol/printer"
	"accesscontrol/syntax"
)

// modules returns modules, each with the statements of a source.
func modules(t *testing.T, sources ...string) []api.Module {
	t.Helper()
	var all []api.Module
	for i, src := range sources {
		l, f := syntax.Statements(src)
		if f.Code != api.OK {
			t.Fatalf("Statements(%q): got %v", src, f)
		}
		all = append(all, api.Module{Name: "m" + strconv.Itoa(i), Version: i, Stmts: l})
	}
	return all
}

// brief writes the beginning of a value.
func brief(x any) string {
	s := fmt.Sprint(x)
	return s[:min(len(s), 500)]
}

// marks writes what is enabled: a plus or a minus for each block, with a space between modules.
func marks(l [][]bool) string {
	var words []string
	for _, blocks := range l {
		word := ""
		for _, enabled := range blocks {
			word += map[bool]string{true: "+", false: "-"}[enabled]
		}
		words = append(words, word)
	}
	return strings.Join(words, " ")
}

// checkEnabled checks what is enabled in modules without a fault.
func checkEnabled(t *testing.T, l []api.Module, want string) {
	t.Helper()
	got, f := optional.Enabled(l)
	if f != (api.Fault{}) || len(got) != len(l) || marks(got) != want {
		t.Errorf("Enabled(%s): got %s, %v, want %s", brief(l), marks(got), f, want)
	}
}

// checkFlat checks that Flatten returns modules equal to other ones, also in positions.
func checkFlat(t *testing.T, l, want []api.Module) {
	t.Helper()
	got, f := optional.Flatten(l)
	if f != (api.Fault{}) || !slices.EqualFunc(got, want, sameWithPositions) {
		t.Errorf("Flatten(%s): got %s, %v, want %s", brief(l), brief(got), f, brief(want))
	}
}

func sameWithPositions(a, b api.Module) bool {
	return printer.Same(a, b) && slices.Equal(positions(a.Stmts), positions(b.Stmts))
}

func positions(l []api.Stmt) []api.Pos {
	var all []api.Pos
	for _, s := range l {
		all = append(all, s.Pos)
		all = append(all, positions(s.Then)...)
		all = append(all, positions(s.Else)...)
	}
	return all
}

// checkFault checks that the modules have a fault, and no results beside it.
func checkFault(t *testing.T, l []api.Module, want api.Fault) {
	t.Helper()
	enabled, f := optional.Enabled(l)
	flat, g := optional.Flatten(l)
	if f != want || g != want || len(enabled) != 0 || len(flat) != 0 {
		t.Errorf("Enabled and Flatten of %s: got %v, %v, %v, %v, want %v", brief(l), enabled, f, brief(flat), g, want)
	}
}

func fault(code api.Errno, line, col int, name string) api.Fault {
	return api.Fault{Code: code, Pos: api.Pos{Line: line, Col: col}, Name: name}
}

// picker picks numbers below its argument, by a rule that the seed begins.
type picker func(int) int

func newPicker(seed int) picker {
	state := uint32(seed)
	return func(n int) int {
		state = state*1664525 + 1013904223
		return int(state>>16) % n
	}
}

// word picks a word; a plus in it becomes a space.
func (pick picker) word(text string) string {
	l := strings.Fields(text)
	return strings.ReplaceAll(l[pick(len(l))], "+", " ")
}

// source returns random statements with few names, so that much of what is required is declared somewhere, with at most so many levels of blocks.
func (pick picker) source(count, levels int) string {
	var b strings.Builder
	for range count {
		switch n := pick(10); {
		case n < 3:
			b.WriteString(pick.declaration())
		case n < 5:
			b.WriteString(pick.requirement())
		case n < 9 && levels > 0:
			b.WriteString(pick.block(levels - 1))
		case n == 9 && levels > 0 && pick(3) == 0:
			b.WriteString("if v {\n" + pick.block(levels-1) + "}\n")
		default:
			b.WriteString("permissive " + pick.word("a b c") + ";\n")
		}
	}
	return b.String()
}

func (pick picker) declaration() string {
	return pick.word("type+a; type+b; type+c; type+d; type+e+alias+{+f+}; type+e+alias+{+g+}; class+k+{+p+}; class+k+{+q+}; class+l+{+p+q+}; attribute+x; role+r; bool+v+true; sensitivity+s; category+a; user+u+roles+{+r+}+level+s+range+s;") + "\n"
}

func (pick picker) requirement() string {
	return pick.word("require+type+a; require+type+b; require+type+c; require+type+d; require+type+e; require+type+f; require+type+g; require+type+a,+d; require+class+k+{+p+}; require+class+k+{+p+q+}; require+class+l+{+q+}; require+attribute+x; require+role+r; require+role+object_r; require+bool+v; require+category+a; require+user+u; require+type+x;") + "\n"
}

func (pick picker) block(levels int) string {
	text := "optional {\n" + pick.requirement() + pick.source(pick(4), levels) + "}"
	if pick(2) == 0 {
		text += " else {\n" + pick.declaration() + pick.source(pick(3), levels) + "}"
	}
	return text + "\n"
}

// random returns random modules.
func random(t *testing.T, seed int) []api.Module {
	pick := newPicker(seed)
	var sources []string
	for range pick(4) {
		sources = append(sources, pick.source(pick(5), 3))
	}
	return modules(t, sources...)
}
