package linker_test

import (
	"fmt"
	"reflect"
	"strconv"
	"strings"
	"testing"

	"accesscontrol/api"
	"accesscontrol/linker"
	"accesscontrol/syntax"
)

// base declares what the statements of tests use.
const base = `class file { read write execute }; class dir { read add };
attribute x; attribute none;
type a, x; type b alias { d }, x; type c;
bool p true; bool q false;
sensitivity s0; sensitivity s1; category c0; category c1; category c2;
role r1 types { a }; role r2 types x; role r3;
user u roles { r1 r2 } level s0 range s0-s1:c0.c2; user v roles { r3 } level s1:c1 range s1:c1;
`

// baseLines is the number of lines of base: statements behind it begin on the next line.
const baseLines = 7

// need requires most of what base declares.
const need = "require type a, b, c; require attribute x, none; require class file { read write execute }; require class dir { read add }; require role r1, r2, r3; require user u, v; require bool p, q; require sensitivity s0, s1;\n"

// modules returns modules with different names, each with the statements of a source.
func modules(t *testing.T, sources ...string) []api.Module {
	t.Helper()
	var all []api.Module
	for i, src := range sources {
		l, f := syntax.Statements(src)
		if f.Code != api.OK {
			t.Fatalf("Statements(%.300q): got %v", src, f)
		}
		all = append(all, api.Module{Name: "m" + strconv.Itoa(i), Version: i, Stmts: l})
	}
	return all
}

// policy links sources that have no fault.
func policy(t *testing.T, sources ...string) api.Policy {
	t.Helper()
	p, n, f := linker.Link(modules(t, sources...))
	if n != -1 || f != (api.Fault{}) {
		t.Fatalf("Link(%q): got %d, %v", sources, n, f)
	}
	return p
}

// checkFault checks that modules have a fault, and no policy beside it.
func checkFault(t *testing.T, l []api.Module, module int, want api.Fault) {
	t.Helper()
	p, n, f := linker.Link(l)
	if n != module || f != want || !same(p, api.Policy{}) {
		t.Errorf("Link(%s): got %d, %v, want %d, %v", brief(l), n, f, module, want)
	}
}

// checkList checks a list of the policy of base and more statements.
func checkList[T any](t *testing.T, src string, list func(api.Policy) []T, want ...T) {
	t.Helper()
	if got := list(policy(t, base+src)); !same(got, want) {
		t.Errorf("%q: got %v, want %v", src, got, want)
	}
}

// same reports whether two values are equal, where nil and empty slices are.
func same(x, y any) bool {
	return reflect.DeepEqual(x, y) || sameValues(reflect.ValueOf(x), reflect.ValueOf(y))
}

func sameValues(x, y reflect.Value) bool {
	if x.Kind() != y.Kind() || x.Kind() == reflect.Slice && x.Len() != y.Len() {
		return false
	}
	switch x.Kind() {
	case reflect.Slice:
		for i := range x.Len() {
			if !sameValues(x.Index(i), y.Index(i)) {
				return false
			}
		}
		return true
	case reflect.Struct:
		for i := range x.NumField() {
			if !sameValues(x.Field(i), y.Field(i)) {
				return false
			}
		}
		return true
	}
	return x.Equal(y)
}

// brief writes the beginning of a value.
func brief(x any) string {
	s := fmt.Sprint(x)
	return s[:min(len(s), 500)]
}

func fault(code api.Errno, line, col int, name string) api.Fault {
	return api.Fault{Code: code, Pos: api.Pos{Line: line, Col: col}, Name: name}
}

// behind returns a fault without a name at the column of the first line behind base.
func behind(code api.Errno, col int) api.Fault { return fault(code, baseLines+1, col, "") }

// set returns the set of numbers below 64.
func set(l ...int) api.Set {
	var s api.Set
	for _, n := range l {
		s[0] |= 1 << n
	}
	return s
}

// names returns so many different names.
func names(prefix string, count int) []string {
	var l []string
	for i := range count {
		l = append(l, prefix+strconv.Itoa(i))
	}
	return l
}

// repeated writes a text for each of so many numbers, which replace the character % in it.
func repeated(text string, count int) string {
	var b strings.Builder
	for i := range count {
		b.WriteString(strings.ReplaceAll(text, "%", strconv.Itoa(i)) + "\n")
	}
	return b.String()
}

// picker picks numbers below its argument, by a rule that the seed begins.
type picker func(int) int

func newPicker(seed int) picker {
	state := uint32(seed)
	return func(n int) int {
		state = state*1664525 + 1013904223
		return int(state>>16) % n
	}
}

// word picks a word; a plus in it becomes a space.
func (pick picker) word(text string) string {
	l := strings.Fields(text)
	return strings.ReplaceAll(l[pick(len(l))], "+", " ")
}
