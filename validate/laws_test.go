package validate_test

import (
	"math"
	"reflect"
	"slices"
	"testing"

	"accesscontrol/api"
	"accesscontrol/constraint"
	"accesscontrol/context"
	"accesscontrol/decide"
	"accesscontrol/linker"
	"accesscontrol/newlabel"
	"accesscontrol/validate"
)

// model says what is to be returned, as the definitions say it.
type model struct {
	p          api.Policy
	state      []bool
	s, t, more api.Context
	class      int
	name       string
}

// answer is what a function returns; fields that it does not have are zero.
type answer struct {
	c      api.Context
	entry  bool
	denied uint32
	e      api.Errno
}

// denied returns the denied permissions of a class, each for its contexts, and whether one of them is not granted.
func (m model) denied(class string, perms []string, pairs ...[2]api.Context) (uint32, bool) {
	n := slices.IndexFunc(m.p.Classes, func(c api.Class) bool { return c.Name == class })
	denied, fails := uint32(0), false
	for i, perm := range perms {
		bit := uint32(0)
		if n >= 0 {
			if k := slices.Index(m.p.Classes[n].Perms, perm); k >= 0 {
				bit = 1 << k
			}
		}
		if bit == 0 || decide.Access(m.p, m.state, pairs[i][0], pairs[i][1], n).Allowed&bit == 0 {
			denied, fails = denied|bit, true
		}
	}
	return denied, fails
}

func (m model) invalid(l ...api.Context) bool {
	return slices.ContainsFunc(l, func(c api.Context) bool { return context.Check(m.p, c) != api.OK })
}

func (m model) noClass() bool { return m.class < 0 || m.class >= len(m.p.Classes) }

func (m model) relabel() answer {
	if m.invalid(m.s, m.t, m.more) {
		return answer{e: api.ErrContext}
	}
	if m.noClass() {
		return answer{e: api.ErrClass}
	}
	if denied, fails := m.denied(m.p.Classes[m.class].Name, []string{"relabelfrom", "relabelto"}, [2]api.Context{m.s, m.t}, [2]api.Context{m.s, m.more}); fails {
		return answer{denied: denied, e: api.ErrDenied}
	}
	for _, x := range m.p.Constraints {
		if x.Validate && x.Class == m.class && !constraint.Eval(x.Expr, api.Case{First: m.t, Second: m.more, Third: m.s}) {
			return answer{e: api.ErrDenied}
		}
	}
	return answer{}
}

func (m model) exec() answer {
	if m.invalid(m.s, m.t) {
		return answer{e: api.ErrContext}
	}
	if _, fails := m.denied("file", []string{"execute"}, [2]api.Context{m.s, m.t}); fails {
		return answer{e: api.ErrDenied}
	}
	c, e := newlabel.Process(m.p, m.state, m.s, m.t)
	if e != api.OK || c == m.s {
		return answer{c: c, e: e}
	}
	_, first := m.denied("process", []string{"transition"}, [2]api.Context{m.s, c})
	_, second := m.denied("file", []string{"entrypoint"}, [2]api.Context{c, m.t})
	if first || second {
		return answer{e: api.ErrDenied}
	}
	return answer{c: c, entry: true}
}

func (m model) setCon() answer {
	if m.invalid(m.s, m.t) {
		return answer{e: api.ErrContext}
	}
	if denied, fails := m.denied("process", []string{"dyntransition"}, [2]api.Context{m.s, m.t}); fails {
		return answer{denied: denied, e: api.ErrDenied}
	}
	return answer{}
}

func (m model) create() answer {
	if m.invalid(m.s, m.t) {
		return answer{e: api.ErrContext}
	}
	if m.noClass() {
		return answer{e: api.ErrClass}
	}
	if denied, fails := m.denied("dir", []string{"add"}, [2]api.Context{m.s, m.t}); fails {
		return answer{denied: denied, e: api.ErrDenied}
	}
	c, _ := newlabel.Object(m.p, m.state, m.s, m.t, m.class, m.name)
	if denied, fails := m.denied(m.p.Classes[m.class].Name, []string{"create"}, [2]api.Context{m.s, c}); fails {
		return answer{denied: denied, e: api.ErrDenied}
	}
	return answer{c: c}
}

// wanted returns what the functions are to return, by their names.
func (m model) wanted() map[string]answer {
	return map[string]answer{"Relabel": m.relabel(), "Exec": m.exec(), "SetCon": m.setCon(), "Create": m.create()}
}

// answers returns what the functions return, by their names.
func (m model) answers() map[string]answer {
	relabel, exec, setCon, create := answer{}, answer{}, answer{}, answer{}
	relabel.denied, relabel.e = validate.Relabel(m.p, m.state, m.s, m.t, m.more, m.class)
	exec.c, exec.entry, exec.e = validate.Exec(m.p, m.state, m.s, m.t)
	setCon.denied, setCon.e = validate.SetCon(m.p, m.state, m.s, m.t)
	create.c, create.denied, create.e = validate.Create(m.p, m.state, m.s, m.t, m.class, m.name)
	return map[string]answer{"Relabel": relabel, "Exec": exec, "SetCon": setCon, "Create": create}
}

// random picks a policy, and something to ask it.
func random(t *testing.T, seed int) (picker, model) {
	t.Helper()
	pick := newPicker(seed)
	m := model{p: pick.policy(t), state: pick.state(), s: pick.context(), t: pick.context(), more: pick.context(), class: pick(4), name: []string{"", "log"}[pick(2)]}
	if pick(40) == 0 {
		m.class = pick(3)*3 - 1
	}
	return pick, m
}

// P22.1 to P22.4, P22.6: what is returned is what is described, and contexts are valid.
func TestModel(t *testing.T) {
	type kind struct {
		name   string
		e      api.Errno
		denied bool
	}
	count := map[kind]int{}
	for seed := range 12000 {
		_, m := random(t, seed)
		want := m.wanted()
		for name, got := range m.answers() {
			if got != want[name] {
				t.Errorf("seed %d, %s: got %v, want %v", seed, name, got, want[name])
			}
			if got.e == api.OK && (name == "Exec" || name == "Create") && m.invalid(got.c) {
				t.Errorf("seed %d, %s: the context %v is not valid", seed, name, got.c)
			}
			if got.e != api.OK && (got.c != api.Context{} || got.entry) {
				t.Errorf("seed %d, %s: got %v", seed, name, got)
			}
			count[kind{name, got.e, got.denied != 0 || got.entry}]++
		}
	}
	for _, k := range []kind{
		{"Relabel", api.OK, false}, {"Relabel", api.ErrContext, false}, {"Relabel", api.ErrClass, false}, {"Relabel", api.ErrDenied, true}, {"Relabel", api.ErrDenied, false},
		{"Exec", api.OK, false}, {"Exec", api.OK, true}, {"Exec", api.ErrContext, false}, {"Exec", api.ErrClass, false}, {"Exec", api.ErrDenied, false},
		{"SetCon", api.OK, false}, {"SetCon", api.ErrContext, false}, {"SetCon", api.ErrDenied, true}, {"SetCon", api.ErrDenied, false},
		{"Create", api.OK, false}, {"Create", api.ErrContext, false}, {"Create", api.ErrClass, false}, {"Create", api.ErrDenied, true}, {"Create", api.ErrDenied, false},
	} {
		if count[k] < 50 {
			t.Errorf("only %d times %v", count[k], k)
		}
	}
}

// P22.7: with a further allow rule of the condition 0 what was permitted stays permitted.
func TestMoreRules(t *testing.T) {
	stay, became := 0, 0
	for seed := range 12000 {
		pick, m := random(t, seed)
		before := m.answers()
		r := pick.rule(m.p)
		r.Kind, r.Cond = api.RuleAllow, 0
		m.p.Rules = slices.Insert(slices.Clone(m.p.Rules), pick(len(m.p.Rules)+1), r)
		if code := linker.Check(m.p); code != api.OK {
			t.Fatalf("seed %d: got %v", seed, code)
		}
		after := m.answers()
		for _, name := range []string{"Relabel", "SetCon"} {
			switch {
			case before[name].e == api.OK && after[name].e != api.OK:
				t.Errorf("seed %d: %s is not permitted any more: %v", seed, name, after[name])
			case before[name].e == api.OK:
				stay++
			case after[name].e == api.OK:
				became++
			}
		}
	}
	if stay < 500 || became < 50 {
		t.Errorf("%d changes stay, and %d become permitted", stay, became)
	}
}

// P1: any policies end without a panic.
func TestAnyPolicy(t *testing.T) {
	full := api.Set{math.MaxUint64, math.MaxUint64, math.MaxUint64, math.MaxUint64}
	many := make([]string, 100)
	many[70], many[71], many[72] = "execute", "relabelfrom", "add"
	rules := []api.Rule{{Kind: api.RuleAllow, Source: full, Target: full, Perms: math.MaxUint32}, {Kind: api.RuleAllow, Source: full, Target: full, Class: 1, Perms: math.MaxUint32}, {Kind: api.RuleAllow, Source: full, Target: full, Class: 2, Perms: math.MaxUint32}}
	trans := []api.Trans{{Kind: api.TransCreate, Source: full, Target: full, Result: -1}, {Kind: api.TransCreate, Source: full, Target: full, Class: 1, Result: math.MaxInt}}
	classes := []api.Class{{Name: "process", Perms: []string{"transition", "dyntransition"}}, {Name: "file", Perms: []string{"execute", "create", "relabelto", "relabelfrom"}}, {Name: "dir", Perms: []string{"add", "add"}}, {Name: "file"}}
	policies := []api.Policy{
		{},
		{Classes: []api.Class{{Name: "file", Perms: many}, {Name: "dir", Perms: many}, {Name: "process", Perms: many}}, Types: make([]api.Type, 300), Roles: make([]api.Role, 2), Users: []api.User{{Roles: full}}, Sens: make([]string, 20), Rules: rules},
		{Classes: classes, Types: make([]api.Type, 300), Roles: []api.Role{{}, {Types: full}}, Users: []api.User{{Roles: full}}, Sens: make([]string, 20), Rules: rules, Trans: trans, Constraints: []api.Constraint{{Validate: true, Class: 1}}},
		{Classes: classes, Types: make([]api.Type, 1), Roles: make([]api.Role, 1), Users: make([]api.User, 1), Sens: make([]string, 1), Rules: rules, Ranges: []api.RangeTrans{{Source: full, Target: full, Range: api.Range{Low: api.Level{Sens: -1}}}}},
	}
	for _, p := range policies {
		for _, s := range []api.Context{{}, {Role: 1}, {Type: 299}, {User: -1, Role: math.MinInt, Type: math.MaxInt}} {
			for _, o := range []api.Context{{}, {Role: 1, Type: 2}, {Range: api.Range{High: api.Level{Sens: math.MaxInt, Cats: math.MaxUint64}}}} {
				for _, class := range []int{0, 1, 2, 3, 4, -1, math.MaxInt, math.MinInt} {
					m := model{p: p, s: s, t: o, more: s, class: class, name: "x"}
					for name, got := range m.answers() {
						if got.e != api.OK && got.c != (api.Context{}) {
							t.Errorf("%s: got %v", name, got)
						}
					}
				}
			}
		}
	}
}

// P22.1 to P22.4: the policy and the state are not changed.
func TestArgumentsAreKept(t *testing.T) {
	for seed := range 50 {
		_, m := random(t, seed)
		_, same := random(t, seed)
		m.answers()
		if !reflect.DeepEqual(m, same) {
			t.Errorf("seed %d: an argument was changed", seed)
		}
	}
}
