package compiler_test

import (
	"fmt"
	"reflect"
	"strings"
	"testing"

	"accesscontrol/api"
	"accesscontrol/compiler"
)

// small is the source of the examples.
const small = `module small 1;
class process { fork transition dyntransition send };
class file { read write create unlink execute entrypoint relabelfrom relabelto };
class dir { read write create unlink add remove relabelfrom relabelto };
sensitivity s0;
attribute domain;
type init_t, domain;
type user_t, domain;
type file_t;
type shell_t;
bool share false;
role system types { init_t user_t };
user root roles { system } level s0 range s0;
allow domain self : process { fork send };
allow init_t { file_t shell_t } : file { read execute };
allow init_t user_t : process transition;
allow user_t shell_t : file entrypoint;
type_transition init_t shell_t : process user_t;
if share { allow user_t file_t : file read; }
sid kernel root:system:init_t:s0;
sid root root:object_r:file_t:s0;
sid unlabeled root:object_r:file_t:s0;
`

// base declares what the statements of tests use; they begin on the second line.
const base = "module base 1; class file { read write }; class dir { add }; attribute x; type a, x; type b, x; type c; bool p true; sensitivity s0; sensitivity s1; role m types { a b }; role n types { a }; user u roles { m n } level s0 range s0-s1;\n"

// none is the number of the module of a fault that concerns no module.
const none = -1

// compiled returns the policy of sources that have no fault.
func compiled(t *testing.T, src ...string) api.Policy {
	t.Helper()
	p, n, f := compiler.Compile(src)
	if n != none || f != (api.Fault{}) {
		t.Fatalf("Compile(%s): got %d, %v", brief(src), n, f)
	}
	return p
}

// modules returns the modules of sources that have no fault.
func modules(t *testing.T, src ...string) []api.Module {
	t.Helper()
	l, n, f := compiler.Modules(src)
	if n != none || f != (api.Fault{}) {
		t.Fatalf("Modules(%s): got %d, %v", brief(src), n, f)
	}
	return l
}

// checkCompile checks that sources have a fault, and no policy beside it.
func checkCompile(t *testing.T, src []string, n int, want api.Fault) {
	t.Helper()
	p, k, f := compiler.Compile(src)
	if k != n || f != want || !same(p, api.Policy{}) {
		t.Errorf("Compile(%s): got %s, %d, %v, want %d, %v", brief(src), brief(p), k, f, n, want)
	}
}

// checkModules checks that sources have a fault, which Compile returns, too, and no modules beside it.
func checkModules(t *testing.T, src []string, n int, want api.Fault) {
	t.Helper()
	l, k, f := compiler.Modules(src)
	if k != n || f != want || len(l) != 0 {
		t.Errorf("Modules(%s): got %s, %d, %v, want %d, %v", brief(src), brief(l), k, f, n, want)
	}
	checkCompile(t, src, n, want)
}

// checkLink checks that modules have a fault, and no policy beside it.
func checkLink(t *testing.T, l []api.Module, n int, want api.Fault) {
	t.Helper()
	p, k, f := compiler.Link(l)
	if k != n || f != want || !same(p, api.Policy{}) {
		t.Errorf("Link(%s): got %s, %d, %v, want %d, %v", brief(l), brief(p), k, f, n, want)
	}
}

func fault(code api.Errno, line, col int, name string) api.Fault {
	return api.Fault{Code: code, Pos: api.Pos{Line: line, Col: col}, Name: name}
}

// same reports whether two values are equal, where nil and empty slices are.
func same(x, y any) bool { return sameValues(reflect.ValueOf(x), reflect.ValueOf(y)) }

func sameValues(x, y reflect.Value) bool {
	if x.Kind() != y.Kind() || x.Kind() == reflect.Slice && x.Len() != y.Len() {
		return false
	}
	switch x.Kind() {
	case reflect.Slice:
		for i := range x.Len() {
			if !sameValues(x.Index(i), y.Index(i)) {
				return false
			}
		}
		return true
	case reflect.Struct:
		for i := range x.NumField() {
			if !sameValues(x.Field(i), y.Field(i)) {
				return false
			}
		}
		return true
	}
	return x.Equal(y)
}

// brief writes the beginning of a value.
func brief(x any) string {
	s := fmt.Sprint(x)
	return s[:min(len(s), 500)]
}

// picker picks numbers below its argument, by a rule that the seed begins.
type picker func(int) int

func newPicker(seed int) picker {
	state := uint32(seed)
	return func(n int) int {
		state = state*1664525 + 1013904223
		return int(state>>16) % n
	}
}

// word picks a word; a plus in it becomes a space.
func (pick picker) word(text string) string {
	l := strings.Fields(text)
	return strings.ReplaceAll(l[pick(len(l))], "+", " ")
}
