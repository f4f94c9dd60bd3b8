package newlabel_test

import (
	"math"
	"testing"

	"accesscontrol/api"
	"accesscontrol/newlabel"
)

// process, object, change and member are the functions, for the policy and the state.
func (a asker) process() func(s, t api.Context) (api.Context, api.Errno) {
	return func(s, t api.Context) (api.Context, api.Errno) { return newlabel.Process(a.p, a.state, s, t) }
}

func (a asker) object(class, name string) func(s, t api.Context) (api.Context, api.Errno) {
	return func(s, t api.Context) (api.Context, api.Errno) {
		return newlabel.Object(a.p, a.state, s, t, a.class(class), name)
	}
}

func (a asker) change(class string) func(s, t api.Context) (api.Context, api.Errno) {
	return func(s, t api.Context) (api.Context, api.Errno) {
		return newlabel.Change(a.p, a.state, s, t, a.class(class))
	}
}

func (a asker) member(class string) func(s, t api.Context) (api.Context, api.Errno) {
	return func(s, t api.Context) (api.Context, api.Errno) {
		return newlabel.Member(a.p, a.state, s, t, a.class(class))
	}
}

// P21.1, P21.3, P21.4: the examples of the chapter.
func TestExamples(t *testing.T) {
	const initial, fileText = "root:system:init_t:s0", "root:object_r:file_t:s0"
	a := ask(t, small, false)
	a.leads(a.process(), initial, "root:object_r:shell_t:s0", "root:system:user_t:s0")
	a.leads(a.process(), initial, fileText, initial)
	a.leads(a.object("file", "log"), initial, fileText, fileText)
	if c, e := newlabel.Object(a.p, a.state, a.context(initial), a.context(fileText), 9, "log"); c != (api.Context{}) || e != api.ErrClass {
		t.Errorf("the class 9: got %v, %v", c, e)
	}
	a = ask(t, small+`type_transition init_t file_t : file user_t; type_transition init_t file_t : file shell_t "log";`)
	a.leads(a.object("file", "log"), initial, fileText, "root:object_r:shell_t:s0")
	for _, name := range []string{"", "logs", "Log", "tmp"} {
		a.leads(a.object("file", name), initial, fileText, "root:object_r:user_t:s0")
	}
}

// P21.3: each part of a process's context, by its own transition, and otherwise that of the process.
func TestProcess(t *testing.T) {
	a := ask(t, base+`
type_transition a b : process b "named";
type_transition a b : file a; type_change a b : process a; type_member a b : process a;
role_transition r1 b : file r2; range_transition a b : file s1;
type_transition a b : process b;
role_transition r1 c : process r2; type_transition a c : process c;
range_transition b b : process s1:c0;
role_transition r1 a : process r2;
if p { type_transition b a : process a; }`)
	for _, x := range []struct{ s, file, want string }{
		{"u:r1:a:s0", "v:object_r:b:s1", "u:r1:b:s0"},
		{"u:r1:a:s0-s1:c0", "v:object_r:b:s1", "u:r1:b:s0-s1:c0"},
		{"v:r1:a:s0", "u:object_r:b:s0:c0", "v:r1:b:s0"},
		{"u:r1:a:s0", "v:object_r:c:s1", "u:r2:c:s0"},
		{"v:r1:a:s0", "v:object_r:c:s0", ""}, // the user does not have the role
		{"u:r1:a:s0", "u:object_r:a:s0", ""}, // the role does not have the type
		{"u:r1:b:s0", "u:object_r:a:s0", "u:r2:b:s0"},
		{"u:r1:b:s0", "u:object_r:b:s0", "u:r1:b:s1:c0"},
		{"v:r1:b:s0", "u:object_r:b:s0", ""}, // the user does not have the range
		{"u:r2:b:s0", "u:object_r:c:s0", "u:r2:b:s0"},
		{"u:r2:c:s0", "u:object_r:b:s0", "u:r2:c:s0"},
		{"u:r2:b:s0", "u:object_r:b:s0", "u:r2:b:s1:c0"},
		{"u:r1:a:s0", "v:r1:b:s0", "u:r1:b:s0"}, // the role of the file plays no part
		{"u:object_r:a:s0-s1", "u:object_r:c:s0", "u:object_r:c:s0-s1"},
		{"v:object_r:b:s0", "u:object_r:b:s0", "v:object_r:b:s1:c0"},
		{"u:r1:b:s1", "u:object_r:c:s0", "u:r2:b:s1"},
	} {
		a.leads(a.process(), x.s, x.file, x.want)
	}
	a.state = []bool{true}
	a.leads(a.process(), "u:r1:b:s0", "u:object_r:a:s0", "") // r2 does not have the type a
	a.leads(a.process(), "v:object_r:b:s0", "u:object_r:a:s0", "v:object_r:a:s0")
	a.leads(a.process(), "u:r2:b:s0", "u:object_r:a:s0", "")
}

// P21.3: no class process, and the order of the errors.
func TestProcessWithoutClass(t *testing.T) {
	for _, name := range []string{"Process", "proces", "process2"} {
		a := ask(t, "class file { fork }; class "+name+" { fork }; sensitivity s0; type a; role r types a; user u roles { r } level s0 range s0;")
		s := a.context("u:r:a:s0")
		for _, x := range []struct {
			s, file api.Context
			want    api.Errno
		}{
			{s, s, api.ErrClass}, {s, api.Context{}, api.ErrClass}, {api.Context{Type: 1}, s, api.ErrContext}, {s, api.Context{User: -1}, api.ErrContext},
		} {
			if c, e := newlabel.Process(a.p, nil, x.s, x.file); c != (api.Context{}) || e != x.want {
				t.Errorf("Process(%v, %v): got %v, %v, want %v", x.s, x.file, c, e, x.want)
			}
		}
	}
}

// P21.4: the user and the level of the process, the type of the directory, and what transitions say.
func TestObject(t *testing.T) {
	a := ask(t, base+`
type_transition a b : file c; type_transition a b : file a "log"; type_change a a : file c; type_member a a : file c;
role_transition { r1 r2 } { a b c } : { file dir process } r2;
range_transition a c : file s1:c0; range_transition b b : dir s0-s1;
if p { type_transition b c : dir b "log"; }`)
	for _, x := range []struct{ class, name, s, dir, want string }{
		{"file", "x", "u:r1:a:s0", "v:object_r:b:s1", "u:object_r:c:s0"},
		{"file", "", "v:r1:a:s0", "u:object_r:b:s1:c0", "v:object_r:c:s0"},
		{"file", "log", "u:r1:a:s0", "v:object_r:b:s1", "u:object_r:a:s0"},
		{"dir", "log", "u:r1:a:s0", "v:object_r:b:s1", "u:object_r:b:s0"},
		{"process", "", "u:r1:a:s0", "v:object_r:b:s1", "u:object_r:b:s0"},
		{"file", "", "u:r1:a:s0", "v:object_r:a:s1", "u:object_r:a:s0"},
		{"file", "", "u:r1:a:s0", "v:object_r:c:s0", "u:object_r:c:s1:c0"},
		{"file", "", "v:r1:a:s0", "u:r2:c:s0", "v:object_r:c:s1:c0"}, // the user's range does not matter to an object
		{"dir", "", "u:r1:a:s1", "v:object_r:c:s0", "u:object_r:c:s1"},
		{"dir", "", "v:r1:b:s0", "u:r2:b:s0", "v:object_r:b:s0-s1"},
		{"file", "", "v:r1:b:s0", "u:r2:b:s0", "v:object_r:b:s0"},
		{"dir", "", "u:r2:b:s0:c0-s1:c0", "u:object_r:a:s1", "u:object_r:a:s0:c0"},
		{"dir", "log", "u:r2:b:s0-s1:c0", "u:object_r:c:s1", "u:object_r:c:s0"},
		{"dir", "", "v:object_r:a:s1", "u:object_r:a:s0", "v:object_r:a:s1"},
	} {
		a.leads(a.object(x.class, x.name), x.s, x.dir, x.want)
	}
	a.state = []bool{true}
	a.leads(a.object("dir", "log"), "u:r2:b:s0-s1:c0", "u:object_r:c:s1", "u:object_r:b:s0")
	a.leads(a.object("dir", "logs"), "u:r2:b:s0-s1:c0", "u:object_r:c:s1", "u:object_r:c:s0")
}

// P21.5: Change keeps all but the type.
func TestChange(t *testing.T) {
	a := ask(t, base+`
type_transition a a : file c; type_member a a : file c; type_change a a : dir c;
type_change a b : file c; type_change a b : file a;
role_transition { r1 r2 } b : { file process } r2; range_transition a b : file s1:c0;
if q { type_change b b : process a; }`)
	for _, x := range []struct{ class, s, t, want string }{
		{"file", "u:r1:a:s0", "v:object_r:b:s1", "v:object_r:c:s1"},
		{"file", "u:r1:a:s0", "v:object_r:b:s0-s1:c0", "v:object_r:c:s0-s1:c0"},
		{"file", "u:r1:a:s0", "u:r2:b:s0", "u:r2:c:s0"},
		{"file", "u:r1:a:s0", "u:r1:b:s0", ""}, // the role does not have the type
		{"file", "u:r1:a:s0", "v:object_r:a:s1", "v:object_r:a:s1"},
		{"file", "u:r1:b:s0", "u:r1:b:s0", "u:r1:b:s0"},
		{"dir", "u:r1:a:s0", "u:r2:b:s0-s1", "u:r2:b:s0-s1"},
		{"dir", "v:object_r:a:s1", "u:object_r:a:s0", "u:object_r:c:s0"},
		{"process", "u:r1:b:s0", "u:r2:b:s0", "u:r2:b:s0"},
	} {
		a.leads(a.change(x.class), x.s, x.t, x.want)
	}
	a.state = []bool{false, true}
	a.leads(a.change("process"), "u:r1:b:s0", "u:r2:b:s0", "")
	a.leads(a.change("process"), "u:r1:b:s0", "v:object_r:b:s1", "v:object_r:a:s1")
}

// P21.5: Member has the user and the level of the process, and a type.
func TestMember(t *testing.T) {
	a := ask(t, base+`
type_transition a a : file c; type_change a a : file c; type_member a a : dir c;
type_member a b : file c; type_member a b : file a;
role_transition { r1 r2 } b : { file process } r2; range_transition a b : file s1:c0; range_transition a a : file s1:c0;
if q { type_member b b : process a; }`)
	for _, x := range []struct{ class, s, t, want string }{
		{"file", "u:r1:a:s0", "v:object_r:b:s1", "u:object_r:c:s0"},
		{"file", "v:r1:a:s0", "u:r2:b:s0-s1:c0", "v:object_r:c:s0"},
		{"file", "u:r1:a:s0-s1", "v:object_r:a:s1", "u:object_r:a:s0"},
		{"file", "u:r2:b:s0:c0-s1:c0", "u:r1:b:s0", "u:object_r:b:s0:c0"},
		{"dir", "u:r1:a:s1", "v:object_r:a:s0", "u:object_r:c:s1"},
		{"dir", "u:r1:a:s1", "v:object_r:b:s0", "u:object_r:b:s1"},
		{"process", "v:object_r:b:s1", "u:r2:b:s0", "v:object_r:b:s1"},
	} {
		a.leads(a.member(x.class), x.s, x.t, x.want)
	}
	a.state = []bool{false, true}
	a.leads(a.member("process"), "v:object_r:b:s1", "u:r2:b:s0", "v:object_r:a:s1")
}

// P21.3 to P21.5: contexts and classes that do not exist, and the order of the errors.
func TestInvalid(t *testing.T) {
	a := ask(t, base+"type_transition { a b c } { a b c } : { file process dir } b;")
	ok := a.context("u:r1:a:s0")
	bad := []api.Context{
		{User: 2, Role: 1}, {User: -1}, {Role: 4}, {Role: -1}, {Type: 3}, {Type: -1}, {Role: 3}, {Role: 1, Type: 2}, {User: 1, Role: 2, Type: 1},
		{User: math.MinInt, Role: math.MaxInt, Type: math.MinInt}, {Range: api.Range{Low: api.Level{Sens: 1}}}, {Range: api.Range{High: api.Level{Cats: 2}}},
		{User: 1, Role: 1, Range: api.Range{High: api.Level{Sens: 1}}},
	}
	check := func(s, o api.Context, class int, want api.Errno) {
		t.Helper()
		for name, f := range map[string]func() (api.Context, api.Errno){
			"Object": func() (api.Context, api.Errno) { return newlabel.Object(a.p, nil, s, o, class, "x") },
			"Change": func() (api.Context, api.Errno) { return newlabel.Change(a.p, nil, s, o, class) },
			"Member": func() (api.Context, api.Errno) { return newlabel.Member(a.p, nil, s, o, class) },
		} {
			if c, e := f(); c != (api.Context{}) || e != want {
				t.Errorf("%s(%v, %v, %d): got %v, %v, want %v", name, s, o, class, c, e, want)
			}
		}
	}
	for _, class := range []int{0, 1, 2, 3, -1, math.MaxInt, math.MinInt} {
		for _, c := range bad {
			check(c, ok, class, api.ErrContext)
			check(ok, c, class, api.ErrContext)
			check(c, c, class, api.ErrContext)
		}
		if class < 0 || class > 2 {
			check(ok, ok, class, api.ErrClass)
		}
	}
	for _, c := range bad {
		for _, x := range [][2]api.Context{{c, ok}, {ok, c}, {c, c}} {
			if got, e := newlabel.Process(a.p, nil, x[0], x[1]); got != (api.Context{}) || e != api.ErrContext {
				t.Errorf("Process(%v, %v): got %v, %v", x[0], x[1], got, e)
			}
		}
	}
}
