package validate_test

import (
	"math"
	"slices"
	"testing"

	"accesscontrol/api"
	"accesscontrol/validate"
)

const (
	initial = "root:system:init_t:s0"
	user    = "root:system:user_t:s0"
	plain   = "root:object_r:file_t:s0"
	shell   = "root:object_r:shell_t:s0"
)

// P22.1 to P22.4: the examples of the chapter.
func TestExamples(t *testing.T) {
	a := ask(t, small, false)
	a.executes(initial, shell, user)
	a.executes(initial, plain, initial)
	a.cannotExecute(user, shell, api.ErrDenied)
	a.changes(initial, user, 4, api.ErrDenied)
	a.relabels(initial, plain, shell, "file", 192, api.ErrDenied)
	a.cannotCreate(initial, plain, "file", "log", 16)
}

// P22.1: both permissions are checked, and then the constraints of changes.
func TestRelabel(t *testing.T) {
	a := ask(t, base+`
allow a b : file relabelfrom; allow a c : file relabelto; allow b { b c } : file { relabelfrom relabelto };
allow a b : dir relabelto; allow a { b c } : box relabelfrom; allow a a : { file dir box } *;
constrain file relabelto l1 dom l2;
validatetrans file l1 == l2 || t3 in b; validatetrans file ! t2 in c || t3 in a;
validatetrans dir u1 != u1;
if p { allow a c : file relabelfrom; allow c { a c } : file { relabelfrom relabelto }; }`)
	const subject, other, third = "u:r1:a:s0", "u:r1:b:s1", "u:r3:c:s0"
	const A, B, C = "u:object_r:a:s0", "u:object_r:b:s0", "u:object_r:c:s0"
	const high = "u:object_r:a:s1"
	const from, to = 4, 16
	for _, x := range []struct {
		s, old, changed, class string
		denied                 uint32
		code                   api.Errno
	}{
		{subject, B, C, "file", 0, api.OK},
		{subject, C, B, "file", from | to, api.ErrDenied},
		{subject, B, B, "file", to, api.ErrDenied},
		{subject, C, C, "file", from, api.ErrDenied},
		{subject, A, A, "file", 0, api.OK},
		{subject, "v:r1:b:s0", "v:object_r:c:s0", "file", 0, api.OK},
		{subject, A, high, "file", to, api.ErrDenied}, // the constraint of relabelto
		{subject, high, A, "file", 0, api.ErrDenied},  // the one of changes
		{"u:r1:a:s1", A, high, "file", 0, api.ErrDenied},
		{"u:r1:a:s1", high, high, "file", 0, api.OK},
		{other, B, "u:object_r:b:s1", "file", 0, api.OK},
		{other, "u:object_r:c:s1", B, "file", 0, api.OK},
		{other, B, C, "file", 0, api.ErrDenied},
		{third, A, A, "file", from | to, api.ErrDenied},
		{subject, A, B, "dir", 0, api.ErrDenied}, // a class without relabelfrom, which is no bit
		{subject, A, C, "dir", 1, api.ErrDenied},
		{subject, B, C, "box", 0, api.ErrDenied}, // a class without relabelto
		{third, B, C, "box", 1, api.ErrDenied},
		{subject, A, A, "process", 0, api.ErrDenied},
	} {
		a.relabels(x.s, x.old, x.changed, x.class, x.denied, x.code)
	}
	a.state = []bool{true}
	a.relabels(subject, C, C, "file", 0, api.OK)
	a.relabels(third, A, A, "file", 0, api.OK)
	a.relabels(third, A, B, "file", to, api.ErrDenied)
	a.relabels(third, B, C, "file", from, api.ErrDenied)
	a.relabels(third, A, C, "file", 0, api.ErrDenied)
}

// P22.1: constraints of changes of the class alone, and only behind the permissions.
func TestRelabelConstraints(t *testing.T) {
	a := ask(t, base+"class all { relabelto relabelfrom }; allow a { a b } : { all file } { relabelfrom relabelto }; validatetrans all r1 == r2; validatetrans file u1 != u1;")
	const s = "u:r1:a:s0"
	a.relabels(s, "u:object_r:a:s0", "u:object_r:b:s0", "all", 0, api.OK)
	a.relabels(s, "u:object_r:a:s0", "u:r1:b:s0", "all", 0, api.ErrDenied)
	a.relabels(s, "u:object_r:a:s0", "u:object_r:b:s0", "file", 0, api.ErrDenied)
	a.relabels(s, "u:object_r:a:s0", "u:r2:c:s0", "all", 1, api.ErrDenied)
	a.relabels(s, "u:object_r:c:s0", "u:r1:b:s0", "all", 2, api.ErrDenied)
}

// P22.2: execute, transition and entrypoint, each for its contexts.
func TestExec(t *testing.T) {
	const rules = `type_transition a b : process b; type_transition a a : process a;
role_transition r1 c : process r2; range_transition a a : process s0-s1; range_transition b a : process s1;
`
	const all = rules + `allow { a b c } { a b c } : file execute; allow a { a b } : process transition; allow b b : process transition;
allow a a : file entrypoint; allow b { a b c } : file entrypoint;`
	a := ask(t, base+all)
	const A, B, C = "u:object_r:a:s0", "u:object_r:b:s0", "u:object_r:c:s0"
	a.executes("u:r1:a:s0", B, "u:r1:b:s0")
	a.executes("u:r1:a:s0", A, "u:r1:a:s0-s1") // the range alone differs
	a.executes("u:r1:a:s0-s1", A, "u:r1:a:s0-s1")
	a.executes("u:r1:b:s0", C, "u:r2:b:s0") // the role alone differs
	a.executes("u:r2:b:s0", C, "u:r2:b:s0")
	a.executes("u:r2:b:s0", B, "u:r2:b:s0")
	a.executes("u:r2:b:s0", A, "u:r2:b:s1")
	a.executes("u:object_r:a:s0", "v:r1:a:s0", "u:object_r:a:s0-s1")
	a.cannotExecute("u:r1:a:s0", C, api.ErrContext) // r2 does not have the type a
	a.cannotExecute("v:r1:b:s0", C, api.ErrContext) // v does not have r2
	a.cannotExecute("v:r1:b:s0", A, api.ErrContext) // nor s1
	a = ask(t, base+rules+`allow a b : file execute; allow a b : process transition; allow { a c } b : file entrypoint; allow b b : file execute; allow b { a c } : file entrypoint;`)
	a.cannotExecute("u:r1:a:s0", B, api.ErrDenied) // the new type needs the entrypoint
	a.executes("u:r1:b:s0", B, "u:r1:b:s0")        // without a change there is no need of it
	a = ask(t, base+rules+`allow a b : file execute; allow { a b } { a b } : process dyntransition; allow b a : process transition; allow b b : file entrypoint;`)
	a.cannotExecute("u:r1:a:s0", B, api.ErrDenied)
	a = ask(t, base+rules+`allow a { a c } : file *; allow b b : file *; allow { a b } { a b } : process transition;`)
	a.cannotExecute("u:r1:a:s0", B, api.ErrDenied)
	a.cannotExecute("u:r1:a:s0", C, api.ErrContext)
	a.cannotExecute("v:r1:b:s0", C, api.ErrDenied) // execute is checked ahead of the new context
	a = ask(t, base+"allow b c : file *; allow b b : process *; role_transition r2 c : process r1; role_transition r1 c : process r2;")
	a.cannotExecute("u:r2:b:s0", C, api.ErrDenied) // the change of the role is not allowed
	a.executes("u:r1:b:s0", C, "u:r2:b:s0")
}

// P22.2: rules and transitions with conditions, and constraints.
func TestExecInStates(t *testing.T) {
	a := ask(t, base+`if p { type_transition a b : process b; } else { allow a c : file execute; }
allow a b : file execute; allow b b : file entrypoint; allow a b : process transition; constrain process transition l1 == l2; constrain file execute h1 dom h2;`)
	a.executes("u:r1:a:s0", "u:object_r:b:s0", "u:r1:a:s0")
	a.executes("u:r1:a:s0", "u:object_r:c:s0", "u:r1:a:s0")
	a.cannotExecute("u:r1:a:s0", "u:object_r:b:s1", api.ErrDenied)
	a.state = []bool{true}
	a.executes("u:r1:a:s0", "u:object_r:b:s0", "u:r1:b:s0")
	a.cannotExecute("u:r1:a:s0", "u:object_r:c:s0", api.ErrDenied)
	a.p.Ranges = []api.RangeTrans{{Source: api.Set{1}, Target: api.Set{2}, Class: a.class("process"), Range: api.Range{Low: api.Level{Sens: 1}, High: api.Level{Sens: 1}}}}
	a.cannotExecute("u:r1:a:s0", "u:object_r:b:s0", api.ErrDenied)
}

// P22.2: policies without the classes or permissions.
func TestExecWithoutClasses(t *testing.T) {
	const file, process = "class file { execute entrypoint }; ", "class process { transition }; "
	const execute = "allow a b : file execute; "
	for _, x := range []struct {
		src  string
		want api.Errno
	}{
		{"class dir { execute }; allow a b : dir execute;", api.ErrDenied},
		{process, api.ErrDenied},
		{"class file { read }; allow a b : file read; " + process, api.ErrDenied},
		{file, api.ErrDenied},
		{file + execute, api.ErrClass},
		{file + "class processes { transition }; " + execute, api.ErrClass},
		{file + process + execute, api.OK},
		{file + "class process { fork }; " + execute, api.OK},
		{"class file { execute }; class process { fork }; " + execute, api.OK},
		{file + "class process { fork }; " + execute + "type_transition a b : process b; allow a b : process fork; allow b b : file entrypoint;", api.ErrDenied},
		{"class file { execute }; " + process + execute + "type_transition a b : process b; allow a b : process transition;", api.ErrDenied},
		{file + process + execute + "type_transition a b : process c; allow a c : process transition; allow c b : file entrypoint;", api.ErrContext},
	} {
		a := ask(t, symbols+x.src)
		if x.want == api.OK {
			a.executes("u:r1:a:s0", "u:object_r:b:s0", "u:r1:a:s0")
		} else {
			a.cannotExecute("u:r1:a:s0", "u:object_r:b:s0", x.want)
		}
	}
}

// P22.3: dyntransition alone matters.
func TestSetCon(t *testing.T) {
	a := ask(t, base+`
allow a { a b } : process dyntransition; allow b { a b c } : process transition; allow b c : process dyntransition;
constrain process dyntransition l1 dom l2;
if p { allow b a : process dyntransition; }`)
	for _, x := range []struct {
		s, changed string
		code       api.Errno
	}{
		{"u:r1:a:s0", "u:r1:b:s0", api.OK},
		{"u:r1:a:s0", "u:r1:a:s0", api.OK},
		{"u:r1:b:s0", "u:r1:b:s0", api.ErrDenied}, // no change needs the permission, too
		{"u:r1:b:s0", "u:r1:a:s0", api.ErrDenied},
		{"u:r1:a:s0", "u:r2:b:s0", api.OK},
		{"u:r3:a:s0", "u:r1:b:s0", api.ErrDenied}, // the change of the role
		{"u:r1:b:s0", "u:r2:c:s0", api.OK},
		{"u:r2:b:s0", "u:r2:c:s0", api.OK},
		{"u:r1:a:s0", "u:r1:b:s1", api.ErrDenied}, // the constraint
		{"u:r1:a:s1", "u:r1:b:s0", api.OK},
		{"u:r1:a:s0", "v:r1:b:s0", api.OK},
		{"u:r1:a:s0", "u:object_r:b:s0", api.ErrDenied},
		{"u:object_r:a:s0", "u:object_r:b:s0", api.OK},
	} {
		denied := uint32(0)
		if x.code != api.OK {
			denied = 4
		}
		a.changes(x.s, x.changed, denied, x.code)
	}
	a.state = []bool{true}
	a.changes("u:r1:b:s0", "u:r1:a:s0", 0, api.OK)
	for _, src := range []string{"class file { dyntransition }; allow a b : file dyntransition;", "class process { transition }; allow a b : process transition;", "class Process { dyntransition }; allow a b : Process *;", "class file { read };"} {
		a = ask(t, symbols+src)
		a.changes("u:r1:a:s0", "u:r1:b:s0", 0, api.ErrDenied)
	}
}

// P22.4: add in the directory, and create for the new context.
func TestCreate(t *testing.T) {
	a := ask(t, base+`
allow a { a b } : dir add; allow a b : file create; allow a c : dir create; allow a b : box relabelfrom;
allow c c : file create; allow c b : dir create;
type_transition a b : { file dir } c; type_transition a b : file b "log"; type_transition a a : dir c; type_transition a a : file b;
constrain file create l1 == l2; range_transition a a : file s1;`)
	for _, x := range []struct{ s, dir, class, name, want string }{
		{"u:r1:a:s0", "v:object_r:b:s1", "file", "log", "u:object_r:b:s0"},
		{"v:r1:a:s0", "u:object_r:b:s1", "dir", "log", "v:object_r:c:s0"},
		{"u:r1:a:s0-s1", "u:object_r:a:s0", "dir", "", "u:object_r:c:s0"},
		{"u:r1:a:s1", "u:object_r:a:s0", "file", "", "u:object_r:b:s1"},
	} {
		a.creates(x.s, x.dir, x.class, x.name, x.want)
	}
	const create, createDir, add = 1, 4, 2
	for _, x := range []struct {
		s, dir, class, name string
		denied              uint32
	}{
		{"u:r1:a:s0", "v:object_r:b:s1", "file", "other", create},
		{"u:r1:a:s0", "v:object_r:c:s0", "file", "other", add}, // one check alone is reported
		{"u:r3:c:s0", "v:object_r:c:s0", "file", "log", add},   // add is checked first
		{"u:r3:c:s0", "v:object_r:b:s0", "dir", "log", add},
		{"u:r1:a:s0", "u:object_r:a:s0", "file", "", create}, // the constraint
		{"u:r1:a:s0", "u:object_r:a:s0", "box", "", 0},       // a class without create
		{"u:r1:a:s0", "u:object_r:b:s0", "process", "", 0},
		{"u:r1:b:s0", "u:object_r:b:s0", "box", "", add},
	} {
		a.cannotCreate(x.s, x.dir, x.class, x.name, x.denied)
	}
	a = ask(t, base+"allow a a : dir { add relabelto }; allow a a : file create;")
	a.cannotCreate("u:r1:a:s0", "u:object_r:a:s0", "dir", "", createDir)
	a.creates("u:r1:a:s0", "u:object_r:a:s0", "file", "", "u:object_r:a:s0")
}

// P22.4: policies without the class dir, or its permission.
func TestCreateWithoutClass(t *testing.T) {
	for _, src := range []string{"class file { add create }; allow a a : file *;", "class dir { create }; class file { add create }; allow a a : { dir file } *;", "class dirs { add }; class file { create }; allow a a : { dirs file } *;"} {
		a := ask(t, symbols+src)
		a.cannotCreate("u:r1:a:s0", "u:object_r:a:s0", "file", "", 0)
	}
	a := ask(t, symbols+"class dir { add }; class file { create }; allow a a : { dir file } *; if p { type_transition a a : file b; } ")
	a.creates("u:r1:a:s0", "u:object_r:a:s0", "file", "", "u:object_r:a:s0")
	a.state = []bool{true}
	a.cannotCreate("u:r1:a:s0", "u:object_r:a:s0", "file", "", 1)
}

// P22.1 to P22.4: contexts and classes that do not exist, and the order of the errors.
func TestInvalid(t *testing.T) {
	for _, rules := range []string{"", "allow { a b c } { a b c } : { process file dir box } *;"} {
		a := ask(t, base+rules)
		ok := a.context("u:r1:a:s0")
		for _, bad := range []api.Context{
			{User: 2, Role: 1}, {User: -1}, {Role: 4}, {Role: -1}, {Type: 3}, {Type: -1}, {Role: 1, Type: 2}, {User: 1, Role: 2, Type: 1},
			{User: math.MinInt, Role: math.MaxInt, Type: math.MinInt}, {Range: api.Range{Low: api.Level{Sens: 1}}}, {Range: api.Range{High: api.Level{Cats: 1}}},
			{User: 1, Role: 1, Range: api.Range{High: api.Level{Sens: 1}}},
		} {
			for _, class := range []int{0, 1, 2, 3, 4, -1, math.MaxInt, math.MinInt} {
				a.fails(bad, ok, ok, class, api.ErrContext)
				a.fails(ok, bad, ok, class, api.ErrContext)
				a.fails(ok, ok, bad, class, api.ErrContext)
				a.fails(bad, bad, bad, class, api.ErrContext)
			}
		}
		for _, class := range []int{4, -1, 32, math.MaxInt, math.MinInt} {
			a.fails(ok, ok, ok, class, api.ErrClass)
		}
	}
}

// fails checks the error of the functions for contexts of which one is not valid (ErrContext), or for a class that does not exist.
func (a asker) fails(s, old, changed api.Context, class int, code api.Errno) {
	a.t.Helper()
	if denied, e := validate.Relabel(a.p, nil, s, old, changed, class); denied != 0 || e != code {
		a.t.Errorf("Relabel(%v, %v, %v, %d): got %b, %v, want %v", s, old, changed, class, denied, e, code)
	}
	other := old
	if old == s {
		other = changed
	}
	if c, denied, e := validate.Create(a.p, nil, s, other, class, "x"); c != (api.Context{}) || denied != 0 || e != code {
		a.t.Errorf("Create(%v, %v, %d): got %v, %b, %v, want %v", s, other, class, c, denied, e, code)
	}
	if code == api.ErrClass {
		return
	}
	if c, entry, e := validate.Exec(a.p, nil, s, other); c != (api.Context{}) || entry || e != code {
		a.t.Errorf("Exec(%v, %v): got %v, %v, %v", s, other, c, entry, e)
	}
	if denied, e := validate.SetCon(a.p, nil, s, other); denied != 0 || e != code {
		a.t.Errorf("SetCon(%v, %v): got %b, %v", s, other, denied, e)
	}
}

// P22.5: the table, and nothing for other numbers.
func TestNeeds(t *testing.T) {
	want := map[int][]api.FlowPerm{
		api.OpFork:    {{Class: "process", Perm: "fork"}},
		api.OpExec:    {{Class: "file", Perm: "execute"}, {Class: "process", Perm: "transition"}, {Class: "file", Perm: "entrypoint"}},
		api.OpSetCon:  {{Class: "process", Perm: "dyntransition"}},
		api.OpRead:    {{Class: "*", Perm: "read", Read: true}},
		api.OpWrite:   {{Class: "*", Perm: "write", Write: true}},
		api.OpCreate:  {{Class: "dir", Perm: "add"}, {Class: "*", Perm: "create"}},
		api.OpRemove:  {{Class: "dir", Perm: "remove"}, {Class: "*", Perm: "unlink"}},
		api.OpRelabel: {{Class: "*", Perm: "relabelfrom"}, {Class: "*", Perm: "relabelto"}},
		api.OpRestore: {{Class: "*", Perm: "relabelfrom"}, {Class: "*", Perm: "relabelto"}},
		api.OpSend:    {{Class: "process", Perm: "send", Write: true}},
	}
	numbers := []int{math.MinInt, math.MaxInt}
	for op := -20; op < 300; op++ {
		numbers = append(numbers, op)
	}
	for _, op := range numbers {
		got := validate.Needs(op)
		if !slices.Equal(got, want[op]) {
			t.Errorf("Needs(%d): got %v, want %v", op, got, want[op])
		}
		clear(got)
		if again := validate.Needs(op); !slices.Equal(again, want[op]) {
			t.Errorf("Needs(%d) after a change of what it returned: got %v", op, again)
		}
	}
}
