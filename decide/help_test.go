package decide_test

import (
	"strconv"
	"testing"

	"accesscontrol/api"
	"accesscontrol/bitset"
	"accesscontrol/context"
	"accesscontrol/decide"
	"accesscontrol/linker"
	"accesscontrol/syntax"
)

// small is the policy of the examples.
const small = `class process { fork transition dyntransition send };
class file { read write create unlink execute entrypoint relabelfrom relabelto };
class dir { read write create unlink add remove relabelfrom relabelto };
sensitivity s0;
attribute domain;
type init_t, domain; type user_t, domain; type file_t; type shell_t;
bool share false;
role system types { init_t user_t };
user root roles { system } level s0 range s0;
allow domain self : process { fork send };
allow init_t { file_t shell_t } : file { read execute };
allow init_t user_t : process transition;
allow user_t shell_t : file entrypoint;
type_transition init_t shell_t : process user_t;
if share { allow user_t file_t : file read; }
sid kernel root:system:init_t:s0;
sid root root:object_r:file_t:s0;
sid unlabeled root:object_r:file_t:s0;
`

// base declares classes, the types a, b, c, the roles object_r, r1, r2, r3 and the booleans p, q, for rules behind it.
const base = `class process { fork transition dyntransition send };
class file { read write transition execute };
class thread { dyntransition transition };
type a; type b; type c;
bool p false; bool q true;
sensitivity s0; sensitivity s1;
role r1 types { a b c }; role r2 types { a b c }; role r3 types a;
roleallow r1 r2; roleallow r2 r3;
user u roles { r1 r2 r3 } level s0 range s0-s1; user v roles { r1 } level s0 range s0;
`

// policy returns the policy of a source.
func policy(t *testing.T, src string) api.Policy {
	t.Helper()
	l, f := syntax.Statements(src)
	if f.Code != api.OK {
		t.Fatalf("Statements(%q): got %v", src, f)
	}
	p, _, f := linker.Link([]api.Module{{Name: "m", Stmts: l}})
	if f.Code != api.OK {
		t.Fatalf("Link of %q: got %v", src, f)
	}
	return p
}

// asker asks a policy in a state, with contexts, classes and permissions by their names.
type asker struct {
	t     *testing.T
	p     api.Policy
	state []bool
}

func ask(t *testing.T, src string, state ...bool) asker {
	t.Helper()
	return asker{t, policy(t, src), state}
}

func (a asker) context(s string) api.Context {
	a.t.Helper()
	c, code := context.Parse(a.p, s)
	if code != api.OK {
		a.t.Fatalf("Parse(%q): got %v", s, code)
	}
	return c
}

func (a asker) class(name string) int {
	a.t.Helper()
	n, ok := linker.Symbol(a.p, api.SymClass, name)
	if !ok {
		a.t.Fatalf("there is no class %q", name)
	}
	return n
}

// decides checks a decision.
func (a asker) decides(s, t, class string, want api.Decision) {
	a.t.Helper()
	if got := decide.Access(a.p, a.state, a.context(s), a.context(t), a.class(class)); got != want {
		a.t.Errorf("Access(%v, %q, %q, %q): got %v, want %v", a.state, s, t, class, got, want)
	}
}

// allows checks which permissions of a class are allowed.
func (a asker) allows(s, t, class string, want uint32) {
	a.t.Helper()
	if got := decide.Access(a.p, a.state, a.context(s), a.context(t), a.class(class)).Allowed; got != want {
		a.t.Errorf("Access(%v, %q, %q, %q): got %b, want %b", a.state, s, t, class, got, want)
	}
}

// explains checks a reason.
func (a asker) explains(s, t, class string, perm, why, rule, constraint int) {
	a.t.Helper()
	want := api.Reason{Why: why, Rule: rule, Constraint: constraint}
	if got := decide.Why(a.p, a.state, a.context(s), a.context(t), a.class(class), perm); got != want {
		a.t.Errorf("Why(%v, %q, %q, %q, %d): got %v, want %v", a.state, s, t, class, perm, got, want)
	}
}

// picker picks numbers below its argument, by a rule that the seed begins.
type picker func(int) int

func newPicker(seed int) picker {
	state := uint32(seed)
	return func(n int) int {
		state = state*1664525 + 1013904223
		return int(state>>16) % n
	}
}

// set picks a set of numbers from first to last that is not empty.
func (pick picker) set(first, last int) api.Set {
	s := bitset.Of(first + pick(last-first+1))
	for n := first; n <= last; n++ {
		if pick(3) == 0 {
			s = bitset.With(s, n)
		}
	}
	return s
}

func (pick picker) cond(levels int) api.Expr {
	if levels == 1 || pick(3) == 0 {
		return api.Expr{Op: api.ExprName, A: pick(3)}
	}
	op := []int{api.ExprNot, api.ExprAnd, api.ExprOr, api.ExprXor}[pick(4)]
	e := api.Expr{Op: op, Kids: []api.Expr{pick.cond(levels - 1)}}
	if op != api.ExprNot {
		e.Kids = append(e.Kids, pick.cond(levels-1))
	}
	return e
}

// expr picks an expression of a constraint.
func (pick picker) expr(levels int) api.Expr {
	if levels > 1 && pick(3) == 0 {
		return api.Expr{Op: api.ExprAnd + pick(2), Kids: []api.Expr{pick.expr(levels - 1), pick.expr(levels - 1)}}
	}
	a, b := api.AttrsOfContext*pick(2), api.AttrsOfContext*pick(2)
	switch pick(3) {
	case 0:
		sort := pick(3)
		return api.Expr{Op: api.ExprCompare, A: a + sort, Rel: pick(2), B: b + sort}
	case 1:
		return api.Expr{Op: api.ExprCompare, A: a + api.AttrLow, Rel: pick(5), B: b + api.AttrHigh}
	}
	return api.Expr{Op: api.ExprIn, A: a + api.AttrType, Set: pick.set(0, 3)}
}

// perms picks permissions of a class.
func (pick picker) perms(p api.Policy, class int) uint32 {
	count := len(p.Classes[class].Perms)
	width := min(count, 8)
	return uint32(1+pick(1<<width-1)) << pick(count-width+1)
}

func (pick picker) rule(p api.Policy) api.Rule {
	r := api.Rule{Kind: 1 + max(pick(7)-3, 0), Source: pick.set(0, 3), Target: pick.set(0, 3), Self: pick(4) == 0, Class: pick(3)}
	if r.Self && pick(2) == 0 {
		r.Target = api.Set{}
	}
	r.Perms = pick.perms(p, r.Class)
	if r.Kind != api.RuleNeverAllow {
		r.Cond = max(pick(8)-4, 0) - max(pick(8)-5, 0)
	}
	return r
}

func (pick picker) constraint(p api.Policy) api.Constraint {
	c := api.Constraint{Class: pick(3), Expr: pick.expr(4)}
	if pick(4) == 0 {
		c.Validate = true
		return c
	}
	c.Perms = pick.perms(p, c.Class)
	return c
}

// policy picks a policy with 3 classes, 4 types, 4 roles, 2 users and 3 booleans.
func (pick picker) policy(t *testing.T) api.Policy {
	t.Helper()
	p := api.Policy{
		Classes: []api.Class{{Name: "process", Perms: []string{"transition", "send", "dyntransition", "fork"}}, {Name: "file", Perms: []string{"read", "transition"}}, {Name: "many"}},
		Types:   []api.Type{{Name: "a"}, {Name: "b"}, {Name: "c"}, {Name: "d"}},
		Roles:   []api.Role{{Name: api.ObjectRole}},
		Bools:   []api.Bool{{Name: "p"}, {Name: "q", Value: true}, {Name: "r"}},
		Sens:    []string{"s0", "s1"},
		Cats:    []string{"c0"},
		Conds:   []api.Expr{pick.cond(3), pick.cond(3), pick.cond(3)},
	}
	for n := range api.MaxPerms {
		p.Classes[2].Perms = append(p.Classes[2].Perms, "p"+strconv.Itoa(n))
	}
	for n := range p.Types {
		p.Types[n].Permissive = pick(2) == 0
	}
	for _, name := range []string{"r1", "r2", "r3"} {
		p.Roles = append(p.Roles, api.Role{Name: name, Types: bitset.Minus(bitset.All(4), bitset.Of(pick(12))), Next: bitset.Without(pick.set(1, 3), pick(4))})
	}
	for _, name := range []string{"u", "v"} {
		p.Users = append(p.Users, api.User{Name: name, Roles: bitset.Minus(bitset.Of(1, 2, 3), bitset.Of(pick(9))), Range: api.Range{High: api.Level{Sens: min(pick(6), 1), Cats: 1}}})
	}
	for range pick(60) {
		p.Rules = append(p.Rules, pick.rule(p))
	}
	for range pick(6) {
		p.Constraints = append(p.Constraints, pick.constraint(p))
	}
	if code := linker.Check(p); code != api.OK {
		t.Fatalf("the policy is not valid: %v: %v", code, p)
	}
	return p
}

// context picks a context of such a policy, which may not be valid.
func (pick picker) context() api.Context {
	low := api.Level{Sens: pick(4) / 3}
	high := api.Level{Sens: max(low.Sens, pick(2)), Cats: uint64(pick(2))}
	c := api.Context{User: pick(2), Role: pick(4), Type: pick(4), Range: api.Range{Low: low, High: high}}
	if pick(20) == 0 {
		c.Type = pick(6) - 1
	}
	return c
}

// state picks a state that may be too short or too long.
func (pick picker) state() []bool {
	var state []bool
	for range pick(5) {
		state = append(state, pick(2) == 0)
	}
	return state
}
