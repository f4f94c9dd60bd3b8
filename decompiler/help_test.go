package decompiler_test

import (
	"fmt"
	"reflect"
	"testing"

	"accesscontrol/api"
	"accesscontrol/linker"
	"accesscontrol/printer"
	"accesscontrol/syntax"
)

// small is the source of the examples.
const small = `class process { fork transition dyntransition send };
class file { read write create unlink execute entrypoint relabelfrom relabelto };
class dir { read write create unlink add remove relabelfrom relabelto };
sensitivity s0;
attribute domain;
type init_t, domain;
type user_t, domain;
type file_t;
type shell_t;
bool share false;
role system types { init_t user_t };
user root roles { system } level s0 range s0;
allow domain self : process { fork send };
allow init_t { file_t shell_t } : file { read execute };
allow init_t user_t : process transition;
allow user_t shell_t : file entrypoint;
type_transition init_t shell_t : process user_t;
if share { allow user_t file_t : file read; }
sid kernel root:system:init_t:s0;
sid root root:object_r:file_t:s0;
sid unlabeled root:object_r:file_t:s0;
`

// large has statements of all kinds, with all that they may have.
const large = `class file { read write execute };
class dir { add };
attribute first; attribute second; attribute none;
type a_t alias { x_t y_t }, first, second;
type b_t, second;
type c_t;
sensitivity s0; sensitivity s1;
category c0; category c1; category c2; category c3;
bool p true; bool q false;
role user_r types { a_t b_t };
role admin_r types first;
role none_r;
roleallow user_r { admin_r none_r };
roleallow admin_r admin_r;
user low roles { user_r } level s0 range s0;
user high roles { none_r user_r admin_r } level s0:c1 range s0-s1:c0.c3;
if !p && (q || p) { allow a_t b_t : file read; } else { type_change { a_t b_t } c_t : file a_t; }
if q { dontaudit b_t { a_t self } : dir add; } else { auditallow first self : file { read execute }; }
neverallow second second : dir add;
type_transition a_t b_t : file c_t "log.txt";
type_member a_t b_t : dir c_t;
role_transition user_r { a_t c_t } : file admin_r;
range_transition a_t b_t : file s0:c0,c2-s1:c0.c3;
range_transition b_t a_t : dir s1;
constrain file { read write } u1 == u2 || !(t1 in { b_t a_t } && r2 in { object_r user_r });
constrain dir add l1 domby h2;
validatetrans dir (l1 == l2 || t3 in c_t) && u3 in high;
sid kernel high:user_r:a_t:s0:c1-s1:c0,c1;
filecon "/.*" any low:object_r:c_t:s1:c3;
filecon "/etc" socket high:admin_r:a_t:s0;
permissive { a_t c_t };
assert one noflow first c_t;
assert two separate a_t { b_t c_t };
`

// linked returns the policy of statements.
func linked(t *testing.T, src string) api.Policy {
	t.Helper()
	p, _, f := linker.Link([]api.Module{{Name: "m", Stmts: statements(t, src)}})
	if f.Code != api.OK {
		t.Fatalf("Link of %q: got %v", src, f)
	}
	return p
}

func statements(t *testing.T, src string) []api.Stmt {
	t.Helper()
	l, f := syntax.Statements(src)
	if f.Code != api.OK {
		t.Fatalf("Statements(%q): got %v", src, f)
	}
	return l
}

// source writes statements, each on a line.
func source(t *testing.T, l []api.Stmt) string {
	t.Helper()
	text := ""
	for _, s := range l {
		line, code := printer.Statement(s, 0)
		if code != api.OK {
			t.Fatalf("Statement(%s): got %v", brief(s), code)
		}
		text += line + "\n"
	}
	return text
}

// checkStatements checks statements, which have no positions.
func checkStatements(t *testing.T, l []api.Stmt, want string) {
	t.Helper()
	if got := source(t, l); got != want || !printer.SameStatements(l, statements(t, want)) {
		t.Errorf("got\n%s\nwant\n%s", got, want)
	}
	checkPositions(t, l)
}

func checkPositions(t *testing.T, l []api.Stmt) {
	t.Helper()
	for _, s := range l {
		if s.Pos != (api.Pos{}) {
			t.Errorf("the position of %s", brief(s))
		}
		checkPositions(t, s.Then)
		checkPositions(t, s.Else)
	}
}

func checkValid(t *testing.T, p api.Policy) {
	t.Helper()
	if code := linker.Check(p); code != api.OK {
		t.Fatalf("the policy is not valid: %v: %s", code, brief(p))
	}
}

// changed returns a policy with a change.
func changed(p api.Policy, change func(*api.Policy)) api.Policy {
	change(&p)
	return p
}

// same reports whether two values are equal, where nil and empty slices are.
func same(x, y any) bool { return sameValues(reflect.ValueOf(x), reflect.ValueOf(y)) }

func sameValues(x, y reflect.Value) bool {
	if x.Kind() != y.Kind() || x.Kind() == reflect.Slice && x.Len() != y.Len() {
		return false
	}
	switch x.Kind() {
	case reflect.Slice:
		for i := range x.Len() {
			if !sameValues(x.Index(i), y.Index(i)) {
				return false
			}
		}
		return true
	case reflect.Struct:
		for i := range x.NumField() {
			if !sameValues(x.Field(i), y.Field(i)) {
				return false
			}
		}
		return true
	}
	return x.Equal(y)
}

// scribble changes all memory that a value refers to, also behind its lists.
func scribble(v reflect.Value) {
	switch v.Kind() {
	case reflect.Struct:
		for i := range v.NumField() {
			scribble(v.Field(i))
		}
	case reflect.Slice:
		for i := range v.Len() {
			scribble(v.Index(i))
			v.Index(i).SetZero()
		}
		reflect.Append(v, reflect.Zero(v.Type().Elem()))
	}
}

// memories calls a function for the address of each element of each list within a value.
func memories(v reflect.Value, do func(uintptr)) {
	switch v.Kind() {
	case reflect.Struct:
		for i := range v.NumField() {
			memories(v.Field(i), do)
		}
	case reflect.Slice:
		for i := range v.Len() {
			do(v.Index(i).Addr().Pointer())
			memories(v.Index(i), do)
		}
	}
}

// brief writes the beginning of a value.
func brief(x any) string {
	s := fmt.Sprint(x)
	return s[:min(len(s), 800)]
}
