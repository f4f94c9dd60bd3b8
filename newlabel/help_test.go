package newlabel_test

import (
	"testing"

	"accesscontrol/api"
	"accesscontrol/bitset"
	"accesscontrol/context"
	"accesscontrol/linker"
	"accesscontrol/syntax"
)

// small is the policy of the examples.
const small = `class process { fork transition dyntransition send };
class file { read write create unlink execute entrypoint relabelfrom relabelto };
class dir { read write create unlink add remove relabelfrom relabelto };
sensitivity s0;
attribute domain;
type init_t, domain; type user_t, domain; type file_t; type shell_t;
bool share false;
role system types { init_t user_t };
user root roles { system } level s0 range s0;
allow domain self : process { fork send };
allow init_t { file_t shell_t } : file { read execute };
allow init_t user_t : process transition;
allow user_t shell_t : file entrypoint;
type_transition init_t shell_t : process user_t;
if share { allow user_t file_t : file read; }
sid kernel root:system:init_t:s0;
sid root root:object_r:file_t:s0;
sid unlabeled root:object_r:file_t:s0;
`

// base declares classes, the types a, b, c, the roles object_r, r1, r2, r3 and the booleans p, q, for transitions behind it.
const base = `class file { read }; class process { fork transition }; class dir { read };
type a; type b; type c;
bool p false; bool q true;
sensitivity s0; sensitivity s1; category c0;
role r1 types { a b }; role r2 types { b c }; role r3 types a;
user u roles { r1 r2 } level s0 range s0-s1:c0; user v roles { r1 } level s0 range s0;
`

// policy returns the policy of a source.
func policy(t *testing.T, src string) api.Policy {
	t.Helper()
	l, f := syntax.Statements(src)
	if f.Code != api.OK {
		t.Fatalf("Statements(%q): got %v", src, f)
	}
	p, _, f := linker.Link([]api.Module{{Name: "m", Stmts: l}})
	if f.Code != api.OK {
		t.Fatalf("Link of %q: got %v", src, f)
	}
	return p
}

// asker asks a policy in a state, with contexts and classes by their names.
type asker struct {
	t     *testing.T
	p     api.Policy
	state []bool
}

func ask(t *testing.T, src string, state ...bool) asker {
	t.Helper()
	return asker{t, policy(t, src), state}
}

func (a asker) context(s string) api.Context {
	a.t.Helper()
	c, code := context.Parse(a.p, s)
	if code != api.OK {
		a.t.Fatalf("Parse(%q): got %v", s, code)
	}
	return c
}

func (a asker) class(name string) int {
	a.t.Helper()
	n, ok := linker.Symbol(a.p, api.SymClass, name)
	if !ok {
		a.t.Fatalf("there is no class %q", name)
	}
	return n
}

// leads checks what a function returns for two contexts: the context with the text want, or ErrContext and the zero context if want is empty.
func (a asker) leads(f func(s, t api.Context) (api.Context, api.Errno), s, t, want string) {
	a.t.Helper()
	wanted, code := api.Context{}, api.ErrContext
	if want != "" {
		wanted, code = a.context(want), api.OK
	}
	if got, e := f(a.context(s), a.context(t)); got != wanted || e != code {
		a.t.Errorf("from %q with %q in %v: got %v, %v, want %q", s, t, a.state, got, e, want)
	}
}

// picker picks numbers below its argument, by a rule that the seed begins.
type picker func(int) int

func newPicker(seed int) picker {
	state := uint32(seed)
	return func(n int) int {
		state = state*1664525 + 1013904223
		return int(state>>16) % n
	}
}

// set picks a set of numbers from first to last that is not empty.
func (pick picker) set(first, last int) api.Set {
	s := bitset.Of(first + pick(last-first+1))
	for n := first; n <= last; n++ {
		if pick(3) == 0 {
			s = bitset.With(s, n)
		}
	}
	return s
}

func (pick picker) level() api.Level { return api.Level{Sens: pick(2), Cats: uint64(pick(2))} }

func (pick picker) levels() api.Range {
	low, high := pick.level(), pick.level()
	return api.Range{Low: low, High: api.Level{Sens: max(low.Sens, high.Sens), Cats: low.Cats | high.Cats}}
}

func (pick picker) transition() api.Trans {
	t := api.Trans{Kind: 1 + pick(3), Source: pick.set(0, 3), Target: pick.set(0, 3), Class: pick(2), Result: pick(4)}
	if t.Kind == api.TransCreate {
		t.Name = []string{"", "log", "tmp"}[pick(3)]
	}
	if pick(2) == 0 {
		t.Cond = pick(5) - 2
	}
	return t
}

// policy picks a policy with 2 classes, 4 types, 3 roles, 2 users and 2 booleans.
func (pick picker) policy(t *testing.T) api.Policy {
	t.Helper()
	p := api.Policy{
		Classes: []api.Class{{Name: "process", Perms: []string{"fork"}}, {Name: "file", Perms: []string{"read"}}},
		Types:   []api.Type{{Name: "a"}, {Name: "b"}, {Name: "c"}, {Name: "d"}},
		Roles:   []api.Role{{Name: api.ObjectRole}, {Name: "r1", Types: pick.set(0, 3)}, {Name: "r2", Types: bitset.All(4)}},
		Users:   []api.User{{Name: "u", Roles: bitset.Of(1, 2), Range: api.Range{High: api.Level{Sens: 1, Cats: 1}}}, {Name: "v", Roles: bitset.Of(1), Range: api.Range{High: api.Level{Sens: 1}}}},
		Bools:   []api.Bool{{Name: "p"}, {Name: "q", Value: true}},
		Sens:    []string{"s0", "s1"},
		Cats:    []string{"c0"},
		Conds:   []api.Expr{{Op: api.ExprName, A: pick(2)}, {Op: api.ExprNot, Kids: []api.Expr{{Op: api.ExprName, A: pick(2)}}}},
	}
	for range pick(20) {
		p.Trans = append(p.Trans, pick.transition())
	}
	for range pick(5) {
		p.RoleTrans = append(p.RoleTrans, api.RoleTrans{Roles: pick.set(1, 2), Types: pick.set(0, 3), Class: pick(2), Result: 1 + pick(2)})
	}
	for range pick(8) {
		p.Ranges = append(p.Ranges, api.RangeTrans{Source: pick.set(0, 3), Target: pick.set(0, 3), Class: pick(2), Range: pick.levels()})
	}
	if code := linker.Check(p); code != api.OK {
		t.Fatalf("the policy is not valid: %v: %v", code, p)
	}
	return p
}

// context picks a context of such a policy, which may not be valid.
func (pick picker) context() api.Context {
	c := api.Context{User: pick(2), Role: pick(3), Type: pick(4), Range: pick.levels()}
	if pick(20) == 0 {
		c.Type = pick(6) - 1
	}
	return c
}

// state picks a state that may be too short or too long.
func (pick picker) state() []bool {
	var state []bool
	for range pick(4) {
		state = append(state, pick(2) == 0)
	}
	return state
}
