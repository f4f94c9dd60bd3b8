package conflict_test

import (
	"fmt"
	"slices"
	"strconv"
	"testing"

	"accesscontrol/api"
	"accesscontrol/bitset"
	"accesscontrol/conflict"
	"accesscontrol/linker"
)

// condition returns a random condition over so many booleans.
func (pick picker) condition(bools, levels int) api.Expr {
	if levels == 0 || pick(3) == 0 {
		return api.Expr{Op: api.ExprName, A: pick(bools)}
	}
	e := api.Expr{Op: api.ExprNot + pick(6), Kids: []api.Expr{pick.condition(bools, levels-1)}}
	if e.Op != api.ExprNot {
		e.Kids = append(e.Kids, pick.condition(bools, levels-1))
	}
	return e
}

// set returns a set of one or more numbers from least to most.
func (pick picker) set(least, most int) api.Set {
	s := bitset.Of(least + pick(most-least+1))
	for pick(3) == 0 {
		s = bitset.With(s, least+pick(most-least+1))
	}
	return s
}

func (pick picker) levels() api.Range {
	low := pick(2)
	return api.Range{Low: api.Level{Sens: low}, High: api.Level{Sens: min(low+pick(2), 1)}}
}

// policy returns a random policy.
func (pick picker) policy(t *testing.T) api.Policy {
	t.Helper()
	p := api.Policy{
		Classes: []api.Class{{Name: "c", Perms: []string{"r"}}, {Name: "d", Perms: []string{"r"}}},
		Types:   []api.Type{{Name: "a"}, {Name: "b"}, {Name: "x"}, {Name: "y"}},
		Roles:   []api.Role{{Name: "object_r"}, {Name: "k"}, {Name: "l"}, {Name: "m"}},
		Users:   []api.User{{Name: "u"}},
		Sens:    []string{"s", "t"},
	}
	conds := 0
	for n := range pick(9) {
		p.Bools = append(p.Bools, api.Bool{Name: "b" + strconv.Itoa(n)})
		conds = 5
	}
	for range conds {
		p.Conds = append(p.Conds, pick.condition(len(p.Bools), 3))
	}
	for range pick(14) {
		x := api.Trans{Kind: 1 + pick(2), Source: pick.set(0, 3), Target: pick.set(0, 3), Class: pick(2), Result: pick(3), Cond: pick(2*conds+1) - conds}
		if x.Kind == api.TransCreate && pick(2) == 0 {
			x.Name = pick.word("n n o")
		}
		p.Trans = append(p.Trans, x)
		p.Rules = append(p.Rules, api.Rule{Kind: 1, Source: x.Source, Target: x.Target, Class: x.Class, Perms: 1, Cond: x.Cond})
		p.RoleTrans = append(p.RoleTrans, api.RoleTrans{Roles: pick.set(1, 3), Types: pick.set(0, 3), Class: pick(2), Result: 1 + pick(3)})
		p.Ranges = append(p.Ranges, api.RangeTrans{Source: pick.set(0, 3), Target: pick.set(0, 3), Class: pick(2), Range: pick.levels()})
		p.Files = append(p.Files, api.FileRule{Pattern: pick.word("/a /b /c"), Kind: pick(3), Context: api.Context{Type: pick(3), Range: pick.levels()}})
	}
	if code := linker.Check(p); code != api.OK {
		t.Fatalf("Check: got %v", code)
	}
	return p
}

// value is the value of a condition in a state.
func value(e api.Expr, state []bool) bool {
	var v []bool
	for _, kid := range e.Kids {
		v = append(v, value(kid, state))
	}
	switch e.Op {
	case api.ExprName:
		return state[e.A]
	case api.ExprNot:
		return !v[0]
	case api.ExprAnd:
		return v[0] && v[1]
	case api.ExprOr:
		return v[0] || v[1]
	case api.ExprSame:
		return v[0] == v[1]
	}
	return v[0] != v[1]
}

func isActive(p api.Policy, cond int, state []bool) bool {
	switch {
	case cond > 0:
		return value(p.Conds[cond-1], state)
	case cond < 0:
		return !value(p.Conds[-cond-1], state)
	}
	return true
}

// statesOf returns all states of the booleans of a policy.
func statesOf(p api.Policy) [][]bool {
	all := [][]bool{nil}
	for range p.Bools {
		var next [][]bool
		for _, state := range all {
			next = append(next, append(slices.Clone(state), false), append(slices.Clone(state), true))
		}
		all = next
	}
	return all
}

// apply says to which cases a transition applies in a state, and what it says of each.
func apply(p api.Policy, x api.Trans, state []bool) map[string]int {
	cases := map[string]int{}
	if isActive(p, x.Cond, state) {
		for _, s := range bitset.List(x.Source) {
			for _, t := range bitset.List(x.Target) {
				cases[fmt.Sprint(x.Kind, s, t, x.Class, x.Name)] = x.Result
			}
		}
	}
	return cases
}

// contradict reports whether two lists of cases say different things of the same case.
func contradict(a, b map[string]int) bool {
	for k, result := range a {
		if other, found := b[k]; found && other != result {
			return true
		}
	}
	return false
}

// pairsOf returns the conflicts of all pairs of so many elements that contradict each other.
func pairsOf(count int, name func(int) string, contradict func(a, b int) bool) []api.Conflict {
	var l []api.Conflict
	for a := range count {
		for b := a + 1; b < count; b++ {
			if contradict(a, b) {
				l = append(l, api.Conflict{Code: api.ErrConflict, A: a, B: b, Name: name(a)})
			}
		}
	}
	return l
}

// modelPolicy says what Policy returns: it asks of each case what the elements say of it.
func modelPolicy(p api.Policy) []api.Conflict {
	var applied [][]map[string]int // by state and transition
	for _, state := range statesOf(p) {
		var l []map[string]int
		for _, x := range p.Trans {
			l = append(l, apply(p, x, state))
		}
		applied = append(applied, l)
	}
	meet := func(a, b api.Set) bool {
		return slices.ContainsFunc(bitset.List(a), func(n int) bool { return bitset.Has(b, n) })
	}
	return slices.Concat(
		pairsOf(len(p.Trans), func(i int) string { return p.Trans[i].Name }, func(a, b int) bool {
			return slices.ContainsFunc(applied, func(l []map[string]int) bool { return contradict(l[a], l[b]) })
		}),
		pairsOf(len(p.RoleTrans), func(int) string { return "role" }, func(a, b int) bool {
			x, y := p.RoleTrans[a], p.RoleTrans[b]
			return x.Class == y.Class && x.Result != y.Result && meet(x.Roles, y.Roles) && meet(x.Types, y.Types)
		}),
		pairsOf(len(p.Ranges), func(int) string { return "range" }, func(a, b int) bool {
			x, y := p.Ranges[a], p.Ranges[b]
			return x.Class == y.Class && x.Range != y.Range && meet(x.Source, y.Source) && meet(x.Target, y.Target)
		}),
		pairsOf(len(p.Files), func(i int) string { return p.Files[i].Pattern }, func(a, b int) bool {
			x, y := p.Files[a], p.Files[b]
			return x.Pattern == y.Pattern && x.Kind == y.Kind && x.Context != y.Context
		}))
}

// P14.2 to P14.6: random policies. Two transitions are in conflict exactly if in some state both apply to the same case, and say different things.
func TestModelOfPolicies(t *testing.T) {
	kinds := map[string]int{}
	for seed := range 1500 {
		p := newPicker(seed).policy(t)
		want := modelPolicy(p)
		if got := conflict.Policy(p); !slices.Equal(got, want) {
			t.Fatalf("seed %d: got %v, want %v", seed, got, want)
		}
		if got := slices.Concat(conflict.Transitions(p), conflict.Roles(p), conflict.Files(p)); !slices.Equal(got, want) {
			t.Fatalf("seed %d: got %v, want %v", seed, got, want)
		}
		for _, c := range want {
			kinds[c.Name]++
		}
	}
	for _, name := range []string{"", "n", "o", "role", "range", "/a"} {
		if kinds[name] < 10 {
			t.Errorf("only %d conflicts with the name %q", kinds[name], name)
		}
	}
}

// remaining returns the elements that are not the later one of a conflict.
func remaining[T any](l []T, found []api.Conflict) []T {
	var left []T
	for i, x := range l {
		if !slices.ContainsFunc(found, func(c api.Conflict) bool { return c.B == i }) {
			left = append(left, x)
		}
	}
	return left
}

// P14.6: without the later one of each pair there are no conflicts left.
func TestWithoutLaterOnes(t *testing.T) {
	for seed := range 1000 {
		p := newPicker(seed).policy(t)
		roles := conflict.Roles(p)
		n := slices.IndexFunc(roles, func(c api.Conflict) bool { return c.Name == "range" })
		if n < 0 {
			n = len(roles)
		}
		p.Trans, p.Files = remaining(p.Trans, conflict.Transitions(p)), remaining(p.Files, conflict.Files(p))
		p.RoleTrans, p.Ranges = remaining(p.RoleTrans, roles[:n]), remaining(p.Ranges, roles[n:])
		if got := conflict.Policy(p); len(got) != 0 {
			t.Errorf("seed %d: got %v", seed, got)
		}
	}
}

// P14.6: conflicts do not depend on rules.
func TestRules(t *testing.T) {
	for seed := range 300 {
		p := newPicker(seed).policy(t)
		want := conflict.Policy(p)
		p.Rules = nil
		p.Asserts = []api.Assert{{Name: "a", Kind: 1, Source: api.Set{1}, Target: api.Set{1}}}
		if got := conflict.Policy(p); !slices.Equal(got, want) {
			t.Errorf("seed %d: got %v, want %v", seed, got, want)
		}
	}
}
