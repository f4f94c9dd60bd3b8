package validate_test

import (
	"testing"

	"accesscontrol/api"
	"accesscontrol/bitset"
	"accesscontrol/context"
	"accesscontrol/linker"
	"accesscontrol/syntax"
	"accesscontrol/validate"
)

// small is the policy of the examples.
const small = `class process { fork transition dyntransition send };
class file { read write create unlink execute entrypoint relabelfrom relabelto };
class dir { read write create unlink add remove relabelfrom relabelto };
sensitivity s0;
attribute domain;
type init_t, domain; type user_t, domain; type file_t; type shell_t;
bool share false;
role system types { init_t user_t };
user root roles { system } level s0 range s0;
allow domain self : process { fork send };
allow init_t { file_t shell_t } : file { read execute };
allow init_t user_t : process transition;
allow user_t shell_t : file entrypoint;
type_transition init_t shell_t : process user_t;
if share { allow user_t file_t : file read; }
sid kernel root:system:init_t:s0;
sid root root:object_r:file_t:s0;
sid unlabeled root:object_r:file_t:s0;
`

// symbols declares the types a, b, c, the roles object_r, r1, r2, r3, the users u, v and the boolean p, without classes.
const symbols = `type a; type b; type c;
bool p false;
sensitivity s0; sensitivity s1;
role r1 types { a b }; role r2 types { b c }; role r3 types { a b c };
roleallow r1 r2;
user u roles { r1 r2 r3 } level s0 range s0-s1; user v roles { r1 } level s0 range s0;
`

// base declares classes, too.
const base = symbols + `class process { fork transition dyntransition };
class file { create execute relabelfrom entrypoint relabelto };
class dir { relabelto add create };
class box { relabelfrom };
`

// policy returns the policy of a source.
func policy(t *testing.T, src string) api.Policy {
	t.Helper()
	l, f := syntax.Statements(src)
	if f.Code != api.OK {
		t.Fatalf("Statements(%q): got %v", src, f)
	}
	p, _, f := linker.Link([]api.Module{{Name: "m", Stmts: l}})
	if f.Code != api.OK {
		t.Fatalf("Link of %q: got %v", src, f)
	}
	return p
}

// asker asks a policy in a state, with contexts and classes by their names.
type asker struct {
	t     *testing.T
	p     api.Policy
	state []bool
}

func ask(t *testing.T, src string, state ...bool) asker {
	t.Helper()
	return asker{t, policy(t, src), state}
}

func (a asker) context(s string) api.Context {
	a.t.Helper()
	c, code := context.Parse(a.p, s)
	if code != api.OK {
		a.t.Fatalf("Parse(%q): got %v", s, code)
	}
	return c
}

func (a asker) class(name string) int {
	a.t.Helper()
	n, ok := linker.Symbol(a.p, api.SymClass, name)
	if !ok {
		a.t.Fatalf("there is no class %q", name)
	}
	return n
}

// relabels checks what Relabel returns.
func (a asker) relabels(s, old, changed, class string, denied uint32, code api.Errno) {
	a.t.Helper()
	got, e := validate.Relabel(a.p, a.state, a.context(s), a.context(old), a.context(changed), a.class(class))
	if got != denied || e != code {
		a.t.Errorf("Relabel of a %s by %q from %q to %q in %v: got %b, %v, want %b, %v", class, s, old, changed, a.state, got, e, denied, code)
	}
}

// changes checks what SetCon returns.
func (a asker) changes(s, changed string, denied uint32, code api.Errno) {
	a.t.Helper()
	if got, e := validate.SetCon(a.p, a.state, a.context(s), a.context(changed)); got != denied || e != code {
		a.t.Errorf("SetCon from %q to %q in %v: got %b, %v, want %b, %v", s, changed, a.state, got, e, denied, code)
	}
}

// executes checks that Exec returns a context.
func (a asker) executes(s, file, want string) {
	a.t.Helper()
	got, entry, e := validate.Exec(a.p, a.state, a.context(s), a.context(file))
	if got != a.context(want) || entry != (s != want) || e != api.OK {
		a.t.Errorf("Exec of %q by %q in %v: got %v, %v, %v, want %q", file, s, a.state, got, entry, e, want)
	}
}

// cannotExecute checks that Exec returns an error.
func (a asker) cannotExecute(s, file string, code api.Errno) {
	a.t.Helper()
	got, entry, e := validate.Exec(a.p, a.state, a.context(s), a.context(file))
	if got != (api.Context{}) || entry || e != code {
		a.t.Errorf("Exec of %q by %q in %v: got %v, %v, %v, want %v", file, s, a.state, got, entry, e, code)
	}
}

// creates checks that Create returns a context.
func (a asker) creates(s, dir, class, name, want string) {
	a.t.Helper()
	got, denied, e := validate.Create(a.p, a.state, a.context(s), a.context(dir), a.class(class), name)
	if got != a.context(want) || denied != 0 || e != api.OK {
		a.t.Errorf("Create of a %s %q by %q in %q: got %v, %b, %v, want %q", class, name, s, dir, got, denied, e, want)
	}
}

// cannotCreate checks that Create is denied permissions.
func (a asker) cannotCreate(s, dir, class, name string, want uint32) {
	a.t.Helper()
	got, denied, e := validate.Create(a.p, a.state, a.context(s), a.context(dir), a.class(class), name)
	if got != (api.Context{}) || denied != want || e != api.ErrDenied {
		a.t.Errorf("Create of a %s %q by %q in %q: got %v, %b, %v, want %b", class, name, s, dir, got, denied, e, want)
	}
}

// picker picks numbers below its argument, by a rule that the seed begins.
type picker func(int) int

func newPicker(seed int) picker {
	state := uint32(seed)
	return func(n int) int {
		state = state*1664525 + 1013904223
		return int(state>>16) % n
	}
}

// set picks a set of numbers from first to last that is not empty.
func (pick picker) set(first, last int) api.Set {
	s := bitset.Of(first + pick(last-first+1))
	for n := first; n <= last; n++ {
		if pick(3) == 0 {
			s = bitset.With(s, n)
		}
	}
	return s
}

func (pick picker) levels() api.Range {
	low := pick(4) / 3
	level := api.Level{Sens: low}
	return api.Range{Low: level, High: api.Level{Sens: max(low, pick(2))}}
}

func (pick picker) rule(p api.Policy) api.Rule {
	r := api.Rule{Kind: 1 + max(pick(10)-6, 0), Source: pick.set(0, 3), Target: pick.set(0, 3), Self: pick(4) == 0, Class: pick(len(p.Classes))}
	r.Perms = uint32(1 + pick(1<<len(p.Classes[r.Class].Perms)-1))
	if r.Kind != api.RuleNeverAllow {
		r.Cond = max(pick(6)-4, 0) - max(pick(6)-4, 0)
	}
	return r
}

// constraint picks a constraint of any kind.
func (pick picker) constraint(p api.Policy) api.Constraint {
	c := api.Constraint{Class: pick(len(p.Classes)), Validate: pick(2) == 0, Expr: api.Expr{Op: api.ExprCompare, A: api.AttrLow, Rel: pick(5), B: api.AttrsOfContext + api.AttrHigh}}
	contexts := 2
	if c.Validate {
		contexts = 3
	} else {
		c.Perms = uint32(1 + pick(1<<len(p.Classes[c.Class].Perms)-1))
	}
	if pick(2) == 0 {
		a := api.AttrsOfContext * pick(contexts)
		c.Expr = api.Expr{Op: api.ExprOr, Kids: []api.Expr{c.Expr, {Op: api.ExprIn, A: a + api.AttrType, Set: pick.set(0, 3)}}}
	}
	return c
}

// classes picks classes of which some, and some of their permissions, may have other names.
func (pick picker) classes() []api.Class {
	l := []api.Class{
		{Name: "process", Perms: []string{"send", "transition", "dyntransition", "relabelto", "relabelfrom"}},
		{Name: "file", Perms: []string{"create", "execute", "entrypoint", "relabelfrom", "relabelto"}},
		{Name: "dir", Perms: []string{"relabelto", "relabelfrom", "add", "create"}},
		{Name: "box", Perms: []string{"read", "relabelto"}},
	}
	for n := range l {
		if pick(15) == 0 {
			l[n].Name += "s"
		}
		if pick(8) == 0 {
			l[n].Perms[pick(len(l[n].Perms))] = "other"
		}
	}
	return l
}

// policy picks a policy with 4 classes, 4 types, 4 roles, 2 users and 2 booleans.
func (pick picker) policy(t *testing.T) api.Policy {
	t.Helper()
	all := bitset.All(4)
	high := api.Level{Sens: 1}
	p := api.Policy{
		Classes: pick.classes(),
		Types:   []api.Type{{Name: "a"}, {Name: "b"}, {Name: "c"}, {Name: "d"}},
		Roles:   []api.Role{{Name: api.ObjectRole}, {Name: "r1", Types: all, Next: pick.set(1, 3)}, {Name: "r2", Types: all, Next: pick.set(1, 3)}, {Name: "r3", Types: pick.set(0, 3)}},
		Users:   []api.User{{Name: "u", Roles: bitset.Of(1, 2, 3), Range: api.Range{High: high}}, {Name: "v", Roles: bitset.Of(1, 3)}},
		Bools:   []api.Bool{{Name: "p"}, {Name: "q", Value: true}},
		Sens:    []string{"s0", "s1"},
		Conds:   []api.Expr{{Op: api.ExprName}, {Op: api.ExprName, A: 1}},
	}
	for range 10 + pick(60) {
		p.Rules = append(p.Rules, pick.rule(p))
	}
	for range pick(4) {
		p.Constraints = append(p.Constraints, pick.constraint(p))
	}
	for range pick(8) {
		p.Trans = append(p.Trans, api.Trans{Kind: api.TransCreate, Source: pick.set(0, 3), Target: pick.set(0, 3), Class: pick(3), Name: []string{"", "log"}[pick(2)], Result: pick(4), Cond: pick(5) - 2})
	}
	for range pick(3) {
		p.RoleTrans = append(p.RoleTrans, api.RoleTrans{Roles: pick.set(1, 3), Types: pick.set(0, 3), Class: pick(2), Result: 1 + pick(3)})
	}
	for range pick(3) {
		p.Ranges = append(p.Ranges, api.RangeTrans{Source: pick.set(0, 3), Target: pick.set(0, 3), Class: pick(3), Range: pick.levels()})
	}
	if code := linker.Check(p); code != api.OK {
		t.Fatalf("the policy is not valid: %v: %v", code, p)
	}
	return p
}

// context picks a context of such a policy, which may not be valid.
func (pick picker) context() api.Context {
	c := api.Context{User: pick(4) / 3, Role: pick(4), Type: pick(4), Range: pick.levels()}
	if pick(30) == 0 {
		c.Type = pick(6) - 1
	}
	return c
}

// state picks a state that may be too short or too long.
func (pick picker) state() []bool {
	var state []bool
	for range pick(4) {
		state = append(state, pick(2) == 0)
	}
	return state
}
