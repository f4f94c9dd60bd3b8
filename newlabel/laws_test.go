package newlabel_test

import (
	"math"
	"reflect"
	"testing"

	"accesscontrol/api"
	"accesscontrol/condition"
	"accesscontrol/context"
	"accesscontrol/newlabel"
)

// model says what contexts are to be, as the definitions say it.
type model struct {
	p     api.Policy
	state []bool
	s, t  api.Context
	class int
	name  string
}

func has(s api.Set, n int) bool { return s[n/64]>>(n%64)&1 == 1 }

// kind returns the type for a kind of transitions, or otherwise another one.
func (m model) kind(kind int, name string, otherwise int) int {
	values := condition.Values(m.p, m.state)
	result, rank := otherwise, 0
	for n := len(m.p.Trans) - 1; n >= 0; n-- {
		t := m.p.Trans[n]
		active := t.Cond == 0 || t.Cond > 0 && values[t.Cond-1] || t.Cond < 0 && !values[-t.Cond-1]
		if !active || t.Kind != kind || t.Class != m.class || !has(t.Source, m.s.Type) || !has(t.Target, m.t.Type) {
			continue
		}
		switch {
		case t.Name != "" && t.Name == name:
			result, rank = t.Result, 2
		case t.Name == "" && rank < 2:
			result, rank = t.Result, 1
		}
	}
	return result
}

func (m model) role(otherwise int) int {
	for n := len(m.p.RoleTrans) - 1; n >= 0; n-- {
		if t := m.p.RoleTrans[n]; t.Class == m.class && has(t.Roles, m.s.Role) && has(t.Types, m.t.Type) {
			otherwise = t.Result
		}
	}
	return otherwise
}

func (m model) levels(otherwise api.Range) api.Range {
	for n := len(m.p.Ranges) - 1; n >= 0; n-- {
		if t := m.p.Ranges[n]; t.Class == m.class && has(t.Source, m.s.Type) && has(t.Target, m.t.Type) {
			otherwise = t.Range
		}
	}
	return otherwise
}

func (m model) valid(c api.Context) bool { return context.Check(m.p, c) == api.OK }

// wanted returns what the functions are to return for valid contexts and a class that exists, by their names.
func (m model) wanted() map[string]api.Context {
	process := m
	process.class = 0
	low := api.Range{Low: m.s.Range.Low, High: m.s.Range.Low}
	return map[string]api.Context{
		"Process": {User: m.s.User, Role: process.role(m.s.Role), Type: process.kind(api.TransCreate, "", m.s.Type), Range: process.levels(m.s.Range)},
		"Object":  {User: m.s.User, Type: m.kind(api.TransCreate, m.name, m.t.Type), Range: m.levels(low)},
		"Change":  {User: m.t.User, Role: m.t.Role, Type: m.kind(api.TransChange, "", m.t.Type), Range: m.t.Range},
		"Member":  {User: m.s.User, Type: m.kind(api.TransMember, "", m.t.Type), Range: low},
	}
}

// result is what a function returns.
type result struct {
	c api.Context
	e api.Errno
}

func newResult(c api.Context, e api.Errno) result { return result{c, e} }

// results returns what the functions return, by their names.
func (m model) results() map[string]result {
	return map[string]result{
		"Process": newResult(newlabel.Process(m.p, m.state, m.s, m.t)),
		"Object":  newResult(newlabel.Object(m.p, m.state, m.s, m.t, m.class, m.name)),
		"Change":  newResult(newlabel.Change(m.p, m.state, m.s, m.t, m.class)),
		"Member":  newResult(newlabel.Member(m.p, m.state, m.s, m.t, m.class)),
	}
}

// random picks a policy, and something to ask it.
func random(t *testing.T, seed int) model {
	t.Helper()
	pick := newPicker(seed)
	return model{pick.policy(t), pick.state(), pick.context(), pick.context(), pick(2), []string{"", "log", "tmp", "x"}[pick(4)]}
}

// P21.1 to P21.6: contexts are those of the definitions, and valid.
func TestModel(t *testing.T) {
	valid, invalid, changed := 0, 0, map[string]int{}
	for seed := range 10000 {
		m := random(t, seed)
		areValid := m.valid(m.s) && m.valid(m.t)
		if areValid {
			valid++
		} else {
			invalid++
		}
		plain := m
		plain.p.Trans, plain.p.RoleTrans, plain.p.Ranges = nil, nil, nil
		for name, got := range m.results() {
			want := result{api.Context{}, api.ErrContext}
			if areValid {
				want = result{m.wanted()[name], api.OK}
			}
			if want.e == api.OK && !m.valid(want.c) {
				changed[name+" to nothing"]++
				want = result{api.Context{}, api.ErrContext}
			}
			if got != want {
				t.Errorf("seed %d, %s: got %v, want %v", seed, name, got, want)
			}
			if got.e == api.OK && !m.valid(got.c) {
				t.Errorf("seed %d, %s: %v is not valid", seed, name, got.c)
			}
			if got.e == api.OK && got != plain.results()[name] {
				changed[name]++
			}
		}
	}
	if valid < 1000 || invalid < 1000 {
		t.Errorf("%d pairs of contexts are valid, %d are not", valid, invalid)
	}
	for name, least := range map[string]int{"Process": 200, "Object": 200, "Change": 200, "Member": 200, "Process to nothing": 100, "Change to nothing": 50} {
		if changed[name] < least {
			t.Errorf("%s: only %d", name, changed[name])
		}
	}
	if changed["Object to nothing"]+changed["Member to nothing"] > 0 {
		t.Errorf("objects whose context is not valid: %v", changed)
	}
}

// P21.1, P21.2: Type, Role and Range agree with the definitions.
func TestModelOfParts(t *testing.T) {
	const none = -1
	found := 0
	for seed := range 3000 {
		m := random(t, seed)
		m.s.Type, m.t.Type = seed%4, seed/4%4
		for kind := range 5 {
			want := m.kind(kind, m.name, none)
			got, ok := newlabel.Type(m.p, m.state, kind, m.s.Type, m.t.Type, m.class, m.name)
			if got != max(want, 0) || ok != (want != none) {
				t.Errorf("seed %d: Type of the kind %d: got %d, %v, want %d", seed, kind, got, ok, want)
			}
			if ok {
				found++
			}
		}
		want := m.role(none)
		if got, ok := newlabel.Role(m.p, m.s.Role, m.t.Type, m.class); got != max(want, 0) || ok != (want != none) {
			t.Errorf("seed %d: Role: got %d, %v, want %d", seed, got, ok, want)
		}
		missing := api.Range{Low: api.Level{Sens: none}}
		levels := m.levels(missing)
		got, ok := newlabel.Range(m.p, m.s.Type, m.t.Type, m.class)
		if ok != (levels != missing) || ok && got != levels || !ok && got != (api.Range{}) {
			t.Errorf("seed %d: Range: got %v, %v, want %v", seed, got, ok, levels)
		}
	}
	if found < 1000 {
		t.Errorf("only %d types were found", found)
	}
}

// P21.6: without transitions, Process returns s, Change t, and Object and Member have the type of t.
func TestWithoutTransitions(t *testing.T) {
	seen := 0
	for seed := range 2000 {
		m := random(t, seed)
		m.p.Trans, m.p.RoleTrans, m.p.Ranges = nil, nil, nil
		if !m.valid(m.s) || !m.valid(m.t) {
			continue
		}
		seen++
		l := m.results()
		if l["Process"] != (result{m.s, api.OK}) || l["Change"] != (result{m.t, api.OK}) {
			t.Errorf("seed %d: %v with %v: got %v", seed, m.s, m.t, l)
		}
		low := api.Range{Low: m.s.Range.Low, High: m.s.Range.Low}
		if want := (result{api.Context{User: m.s.User, Type: m.t.Type, Range: low}, api.OK}); l["Object"] != want || l["Member"] != want {
			t.Errorf("seed %d: %v with %v: got %v", seed, m.s, m.t, l)
		}
	}
	if seen < 300 {
		t.Errorf("only %d pairs of contexts are valid", seen)
	}
}

// P21.6: a state matters for type transitions with conditions alone.
func TestStates(t *testing.T) {
	differ := 0
	for seed := range 4000 {
		m := random(t, seed)
		other := m
		other.state = []bool{seed%2 == 0, seed%4 < 2}
		if !reflect.DeepEqual(m.results(), other.results()) {
			differ++
		}
		var free []api.Trans
		for _, x := range m.p.Trans {
			if x.Cond == 0 {
				free = append(free, x)
			}
		}
		m.p.Trans, other.p.Trans = free, free
		if a, b := m.results(), other.results(); !reflect.DeepEqual(a, b) {
			t.Errorf("seed %d: got %v in %v, and %v in %v", seed, a, m.state, b, other.state)
		}
	}
	if differ < 100 {
		t.Errorf("only %d states matter", differ)
	}
}

// P1: any policies end without a panic.
func TestAnyPolicy(t *testing.T) {
	full := api.Set{math.MaxUint64, math.MaxUint64, math.MaxUint64, math.MaxUint64}
	trans := []api.Trans{
		{Kind: api.TransCreate, Source: full, Target: full, Result: -1, Cond: 1}, {Kind: api.TransCreate, Source: full, Target: full, Result: math.MaxInt, Cond: math.MinInt},
		{Kind: api.TransCreate, Source: full, Target: full, Result: math.MinInt}, {Kind: api.TransMember, Source: full, Target: full, Result: 256}, {Kind: api.TransChange, Source: full, Target: full, Result: -3},
	}
	policies := []api.Policy{
		{},
		{Classes: []api.Class{{Name: "process"}, {Name: "process"}}, Trans: trans},
		{Classes: []api.Class{{Name: "process"}}, Types: make([]api.Type, 300), Roles: make([]api.Role, 2), Users: []api.User{{Roles: full}}, Sens: make([]string, 20), Trans: trans, Conds: []api.Expr{{Op: 99, A: -1}},
			RoleTrans: []api.RoleTrans{{Roles: full, Types: full, Result: math.MinInt}}, Ranges: []api.RangeTrans{{Source: full, Target: full, Range: api.Range{Low: api.Level{Sens: math.MaxInt, Cats: math.MaxUint64}}}}},
		{Classes: []api.Class{{Name: "file"}}, Types: make([]api.Type, 1), Roles: make([]api.Role, 1), Users: make([]api.User, 1), Sens: make([]string, 1), Trans: trans[2:]},
	}
	for _, p := range policies {
		for _, s := range []api.Context{{}, {Role: 1}, {Type: 299}, {User: -1, Role: math.MinInt, Type: math.MaxInt}} {
			for _, o := range []api.Context{{}, {Role: 1, Type: 299}, {Range: api.Range{High: api.Level{Sens: math.MaxInt, Cats: math.MaxUint64}}}} {
				for _, class := range []int{0, 1, -1, math.MaxInt, math.MinInt} {
					m := model{p, nil, s, o, class, "x"}
					for name, got := range m.results() {
						if got.e != api.OK && got.c != (api.Context{}) {
							t.Errorf("%s: got %v", name, got)
						}
					}
					for kind := range 5 {
						newlabel.Type(p, []bool{true}, kind, s.Type, o.Type, class, "")
					}
					newlabel.Role(p, s.Role, o.Type, class)
					newlabel.Range(p, s.Type, o.Type, class)
				}
			}
		}
	}
}

// P21.1 to P21.5: the policy and the state are not changed.
func TestArgumentsAreKept(t *testing.T) {
	for seed := range 50 {
		m, same := random(t, seed), random(t, seed)
		m.results()
		newlabel.Type(m.p, m.state, api.TransCreate, 0, 1, 1, "log")
		newlabel.Role(m.p, 1, 1, 0)
		newlabel.Range(m.p, 0, 1, 1)
		if !reflect.DeepEqual(m, same) {
			t.Errorf("seed %d: an argument was changed", seed)
		}
	}
}
