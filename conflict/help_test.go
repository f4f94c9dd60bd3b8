package conflict_test

import (
	"fmt"
	"slices"
	"strconv"
	"strings"
	"testing"

	"accesscontrol/api"
	"accesscontrol/conflict"
	"accesscontrol/linker"
	"accesscontrol/syntax"
)

// modules returns modules with different names, each with the statements of a source.
func modules(t *testing.T, sources ...string) []api.Module {
	t.Helper()
	var all []api.Module
	for i, src := range sources {
		l, f := syntax.Statements(src)
		if f.Code != api.OK {
			t.Fatalf("Statements(%.300q): got %v", src, f)
		}
		all = append(all, api.Module{Name: "m" + strconv.Itoa(i), Version: 1, Stmts: l})
	}
	return all
}

// policy links a source.
func policy(t *testing.T, src string) api.Policy {
	t.Helper()
	p, _, f := linker.Link(modules(t, src))
	if f.Code != api.OK {
		t.Fatalf("Link(%q): got %v", src, f)
	}
	return p
}

// brief writes the beginning of a value.
func brief(x any) string {
	s := fmt.Sprint(x)
	return s[:min(len(s), 500)]
}

func checkModules(t *testing.T, l []api.Module, want ...api.Conflict) {
	t.Helper()
	if got := conflict.Modules(l); !slices.Equal(got, want) {
		t.Errorf("Modules(%s): got %v, want %v", brief(l), got, want)
	}
}

// found is a conflict of the modules 0 and 1, at columns of their first lines.
func found(code api.Errno, colA, colB int, name string) api.Conflict {
	return api.Conflict{Code: code, B: 1, PosA: api.Pos{Line: 1, Col: colA}, PosB: api.Pos{Line: 1, Col: colB}, Name: name}
}

// conflicts returns conflicts within a policy with a name, of pairs of numbers.
func conflicts(name string, pairs ...[2]int) []api.Conflict {
	var l []api.Conflict
	for _, p := range pairs {
		l = append(l, api.Conflict{Code: api.ErrConflict, A: p[0], B: p[1], Name: name})
	}
	return l
}

// picker picks numbers below its argument, by a rule that the seed begins.
type picker func(int) int

func newPicker(seed int) picker {
	state := uint32(seed)
	return func(n int) int {
		state = state*1664525 + 1013904223
		return int(state>>16) % n
	}
}

// word picks a word; a plus in it becomes a space.
func (pick picker) word(text string) string {
	l := strings.Fields(text)
	return strings.ReplaceAll(l[pick(len(l))], "+", " ")
}
