package conflict_test

import (
	"math"
	"slices"
	"strconv"
	"testing"

	"accesscontrol/api"
	"accesscontrol/conflict"
	"accesscontrol/linker"
)

// base declares what the statements of tests use.
const base = "class c { r }; class d { r }; type x; type y; type z; type a; type b; bool p true; bool q false; bool o false; role k; role l; role m; sensitivity s; sensitivity t; user u roles { k } level s range s-t;\n"

func checkConflicts(t *testing.T, src string, find func(api.Policy) []api.Conflict, want ...api.Conflict) {
	t.Helper()
	if got := find(policy(t, base+src)); !slices.Equal(got, want) {
		t.Errorf("%q: got %v, want %v", src, got, want)
	}
}

// P14.2: transitions that differ in one thing, or in none.
func TestTransitions(t *testing.T) {
	one := conflicts("", [2]int{0, 1})
	for src, want := range map[string][]api.Conflict{
		"type_transition x y : c a; type_transition { x z } y : c b;":                                                                    one,
		"type_transition x y : c a; type_transition x y : c a;":                                                                          nil,
		"type_transition x y : c a; type_transition z y : c b;":                                                                          nil,
		"type_transition x y : c a; type_transition x z : c b;":                                                                          nil,
		"type_transition x y : c a; type_transition x y : d b;":                                                                          nil,
		"type_transition x y : c a; type_change x y : c b;":                                                                              nil,
		"type_change x y : c a; type_change x y : c b;":                                                                                  one,
		"type_member x y : c a; type_member * * : c b;":                                                                                  one,
		"type_member x y : c a; type_change x y : c b;":                                                                                  nil,
		"type_transition x y : c a \"n\"; type_transition x y : c b \"n\";":                                                              conflicts("n", [2]int{0, 1}),
		"type_transition x y : c a \"n\"; type_transition x y : c b \"o\";":                                                              nil,
		"type_transition x y : c a \"n\"; type_transition x y : c b;":                                                                    nil,
		"type_transition x y : c a; type_transition x y : c b; type_transition x y : c a;":                                               conflicts("", [2]int{0, 1}, [2]int{1, 2}),
		"type_transition { x z } { y a } : c a; type_transition { z b } { a b } : c b;":                                                  one,
		"type_transition { x z } { y a } : c a; type_transition { z b } { x b } : c b;":                                                  nil,
		"type_transition x y : { c d } a; type_transition x y : { d c } b;":                                                              conflicts("", [2]int{0, 2}, [2]int{1, 3}),
		"type_transition x y : c a; type_change x y : c a; type_transition x y : c b; type_change x y : c b; type_transition x y : c z;": conflicts("", [2]int{0, 2}, [2]int{0, 4}, [2]int{1, 3}, [2]int{2, 4}),
	} {
		checkConflicts(t, src, conflict.Transitions, want...)
	}
	checkConflicts(t, "type_transition x y : c a \"n\"; type_transition x y : c a; type_transition x y : c b \"n\"; type_transition x y : c b;", conflict.Transitions,
		conflicts("n", [2]int{0, 2})[0], conflicts("", [2]int{1, 3})[0])
}

// P14.2: conditions that are compatible, and conditions that are not.
func TestConditions(t *testing.T) {
	const first, second, rule = " { type_transition x y : c a; } ", " { type_transition x y : c b; } ", " { allow x y : c r; } "
	one := conflicts("", [2]int{0, 1})
	for src, want := range map[string][]api.Conflict{
		"if p" + first + "else" + second:                                    nil,
		"if p" + first + "if p" + second:                                    one,
		"if p" + first + "if q" + second:                                    one,
		"if p" + first + "if !p" + second:                                   nil,
		"if p" + first + "if !!p" + second:                                  one,
		"if p" + rule + "else" + first + "if !p" + second:                   one,
		"if p" + rule + "else" + first + "if p" + second:                    nil,
		"if p && q" + first + "if p ^ q" + second:                           nil,
		"if p && q" + first + "if p != q" + second:                          nil,
		"if p && q" + first + "if p == q" + second:                          one,
		"if p || q" + first + "if p ^ q" + second:                           one,
		"if p || q" + first + "if !p && !q" + second:                        nil,
		"if p" + first + "if p && q && o" + second:                          one,
		"if p ^ q ^ o" + first + "if p == q == o" + second:                  one,
		"if p ^ q ^ o" + first + "if !(p == q == o)" + second:               nil,
		"if p && !p" + first + "type_transition x y : c b;":                 nil,
		"if p && !p" + rule + "else" + first + "type_change x y : c b;":     nil,
		"if p && !p" + rule + "else" + first + "type_transition * * : c b;": one,
		"if p || !p" + rule + "else" + first + "type_transition * * : c b;": nil,
		"type_transition x y : c a; if q" + second:                          one,
		"if p && !p" + first + "if p && !p" + second:                        nil,
	} {
		checkConflicts(t, src, conflict.Transitions, want...)
	}
}

// many returns a policy with as many booleans as there may be, and conditions over them.
func many() api.Policy {
	p := api.Policy{
		Classes: []api.Class{{Name: "c", Perms: []string{"r"}}}, Types: []api.Type{{Name: "x"}, {Name: "y"}}, Roles: []api.Role{{Name: "object_r"}},
	}
	all := api.Expr{Op: api.ExprName}
	for n := range api.MaxBools {
		p.Bools = append(p.Bools, api.Bool{Name: "b" + strconv.Itoa(n)})
		p.Conds = append(p.Conds, api.Expr{Op: api.ExprName, A: n})
	}
	for n := 1; n < 11; n++ {
		all = api.Expr{Op: api.ExprAnd, Kids: []api.Expr{all, {Op: api.ExprName, A: n}}}
	}
	rest := api.Expr{Op: api.ExprName, A: 11}
	for n := 12; n < 16; n++ {
		rest = api.Expr{Op: api.ExprAnd, Kids: []api.Expr{{Op: api.ExprName, A: n}, rest}}
	}
	p.Conds = append(p.Conds, all, rest)
	return p
}

// P14.2: conditions over sixteen booleans: the first eleven of them, the others, and single ones.
func TestManyBooleans(t *testing.T) {
	p := many()
	pair := func(a, b int) []api.Conflict {
		p.Trans = []api.Trans{{Kind: 1, Source: api.Set{1}, Target: api.Set{1}, Cond: a}, {Kind: 1, Source: api.Set{1}, Target: api.Set{3}, Result: 1, Cond: b}}
		if code := linker.Check(p); code != api.OK {
			t.Fatalf("Check: got %v", code)
		}
		return conflict.Transitions(p)
	}
	const all, rest = 17, 18
	for n := range api.MaxBools {
		for m := range api.MaxBools {
			for _, x := range [][3]int{{1, 1, 1}, {1, -1, 0}, {-1, 1, 0}, {-1, -1, 1}} {
				want := 1
				if n == m {
					want = x[2]
				}
				if got := pair(x[0]*(n+1), x[1]*(m+1)); len(got) != want {
					t.Errorf("the booleans %d and %d: got %v", n, m, got)
				}
			}
		}
		within := func(inside bool) int {
			if inside {
				return 0
			}
			return 1
		}
		if len(pair(all, -n-1)) != within(n < 11) || len(pair(-n-1, rest)) != within(n >= 11) || len(pair(all, n+1)) != 1 || len(pair(rest, n+1)) != 1 || len(pair(-all, -n-1)) != 1 || len(pair(-rest, n+1)) != 1 {
			t.Errorf("the boolean %d", n)
		}
	}
	if len(pair(all, rest)) != 1 || len(pair(all, -rest)) != 1 || len(pair(-all, -rest)) != 1 || len(pair(all, -all)) != 0 || len(pair(0, all)) != 1 || len(pair(0, 0)) != 1 {
		t.Errorf("the conjunctions")
	}
}

// exactly returns a condition that is true in one state of sixteen booleans alone: the boolean i is the bit i of its number.
func exactly(state int) api.Expr {
	var l []api.Expr
	for n := range api.MaxBools {
		e := api.Expr{Op: api.ExprName, A: n}
		if state>>n&1 == 0 {
			e = api.Expr{Op: api.ExprNot, Kids: []api.Expr{e}}
		}
		l = append(l, e)
	}
	for len(l) > 1 {
		l = append(l[2:], api.Expr{Op: api.ExprAnd, Kids: []api.Expr{l[0], l[1]}})
	}
	return l[0]
}

// P14.2: each state of sixteen booleans counts.
func TestSingleStates(t *testing.T) {
	p := many()
	for _, state := range []int{0, 1, 2, 32, 63, 64, 65, 127, 128, 1 << 15, 1<<15 + 1, 1<<16 - 64, 1<<16 - 1, 12345} {
		for _, other := range []int{state, state ^ 1, state ^ 32, state ^ 64, state ^ 1<<15, ^state} {
			p.Conds = []api.Expr{exactly(state), exactly(other)}
			for _, x := range []struct {
				a, b int
				want bool
			}{{1, 2, state == other}, {0, 1, true}, {2, 0, true}, {1, -2, state != other}, {-2, 1, state != other}, {-1, -2, true}, {1, -1, false}} {
				p.Trans = []api.Trans{{Kind: 1, Source: api.Set{1}, Target: api.Set{1}, Cond: x.a}, {Kind: 1, Source: api.Set{1}, Target: api.Set{1}, Result: 1, Cond: x.b}}
				if got := len(conflict.Transitions(p)) == 1; got != x.want || linker.Check(p) != api.OK {
					t.Errorf("the states %d and %d, the conditions %d and %d: got %v, %v", state, other, x.a, x.b, got, linker.Check(p))
				}
			}
		}
	}
}

// P14.2: a condition with as many levels as it may have.
func TestDeepConditions(t *testing.T) {
	p := many()
	e := api.Expr{Op: api.ExprName}
	for range api.MaxNest - 1 {
		e = api.Expr{Op: api.ExprNot, Kids: []api.Expr{e}}
	}
	p.Conds = []api.Expr{{Op: api.ExprName}, e} // an odd number of negations
	p.Trans = []api.Trans{{Kind: 1, Source: api.Set{1}, Target: api.Set{1}, Cond: 1}, {Kind: 1, Source: api.Set{1}, Target: api.Set{1}, Result: 1, Cond: 2}}
	if got := conflict.Transitions(p); len(got) != 0 || linker.Check(p) != api.OK {
		t.Errorf("got %v, %v", got, linker.Check(p))
	}
	p.Trans[1].Cond = -2
	if got := conflict.Transitions(p); len(got) != 1 {
		t.Errorf("got %v", got)
	}
}

// P14.2, P14.3: each of 256 types can be the common one.
func TestManyTypes(t *testing.T) {
	p := many()
	for n := len(p.Types); n < api.MaxTypes; n++ {
		p.Types = append(p.Types, api.Type{Name: "t" + strconv.Itoa(n)})
	}
	p.Sens = []string{"s", "t"}
	for n := range api.MaxTypes {
		one, others := api.Set{}, api.Set{}
		for i := range others {
			others[i] = math.MaxUint64
		}
		one[n/64] = 1 << (n % 64)
		others[n/64] &^= one[n/64]
		for _, x := range []struct {
			source, target api.Set
			want           int
		}{{one, one, 2}, {others, one, 0}, {one, others, 0}} {
			p.Trans = []api.Trans{{Kind: 1, Source: one, Target: one}, {Kind: 1, Source: x.source, Target: x.target, Result: 1}}
			p.Ranges = []api.RangeTrans{{Source: x.source, Target: x.target}, {Source: one, Target: one, Range: api.Range{High: api.Level{Sens: 1}}}}
			if got := conflict.Policy(p); len(got) != x.want || linker.Check(p) != api.OK {
				t.Errorf("the type %d: got %v, %v", n, got, linker.Check(p))
			}
		}
	}
}

// P14.3: role transitions, and range transitions.
func TestRoles(t *testing.T) {
	role, levels := conflicts("role", [2]int{0, 1}), conflicts("range", [2]int{0, 1})
	for src, want := range map[string][]api.Conflict{
		"role_transition k x : c l; role_transition k x : c m;":                                                         role,
		"role_transition k x : c l; role_transition k x : c l;":                                                         nil,
		"role_transition k x : c l; role_transition l x : c m;":                                                         nil,
		"role_transition k x : c l; role_transition k y : c m;":                                                         nil,
		"role_transition k x : c l; role_transition k x : d m;":                                                         nil,
		"role_transition { k l } { x y } : c l; role_transition { l m } { y z } : c m;":                                 role,
		"role_transition { k l } { x y } : c l; role_transition { m } { y z } : c m;":                                   nil,
		"role_transition * * : c k; role_transition k x : c l; role_transition k x : c m;":                              conflicts("role", [2]int{0, 1}, [2]int{0, 2}, [2]int{1, 2}),
		"range_transition x y : c s; range_transition x y : c t;":                                                       levels,
		"range_transition x y : c s; range_transition x y : c s-t;":                                                     levels,
		"range_transition x y : c s-t; range_transition x y : c t;":                                                     levels,
		"range_transition x y : c s; range_transition x y : c s-s;":                                                     nil,
		"range_transition x y : c s; range_transition x y : d t;":                                                       nil,
		"range_transition x y : c s; range_transition z y : c t;":                                                       nil,
		"range_transition x y : c s; range_transition x z : c t;":                                                       nil,
		"range_transition { x z } * : c s; range_transition { a z } b : c t;":                                           levels,
		"range_transition x y : c s; role_transition k x : c l; range_transition x y : c t; role_transition k x : c m;": slices.Concat(role, levels),
		"role_transition k x : * l; role_transition k x : * m; role_transition k y : c k;":                              conflicts("role", [2]int{0, 2}, [2]int{1, 3}),
	} {
		checkConflicts(t, src, conflict.Roles, want...)
	}
}

// P14.4: file context rules.
func TestFiles(t *testing.T) {
	const x, y = " u:object_r:x:s; ", " u:object_r:y:s; "
	for src, want := range map[string][]api.Conflict{
		`filecon "/a" any` + x + `filecon "/a" any` + y:                                                                            conflicts("/a", [2]int{0, 1}),
		`filecon "/a" any` + x + `filecon "/a" any` + x:                                                                            nil,
		`filecon "/a" any` + x + `filecon "/b" any` + y:                                                                            nil,
		`filecon "/a" any` + x + `filecon "/a" regular` + y:                                                                        nil,
		`filecon "/a" link` + x + `filecon "/a" link u:object_r:x:t;`:                                                              conflicts("/a", [2]int{0, 1}),
		`filecon "/a" link` + x + `filecon "/a" link u:object_r:x:s-t;`:                                                            conflicts("/a", [2]int{0, 1}),
		`filecon "/a" socket` + x + `filecon "/.*" socket` + y:                                                                     nil,
		`filecon "/b" any` + x + `filecon "/a" any` + x + `filecon "/a" any` + y + `filecon "/b" any` + y + `filecon "/b" any` + x: append(append(conflicts("/b", [2]int{0, 3}), conflicts("/a", [2]int{1, 2})...), conflicts("/b", [2]int{3, 4})...),
	} {
		checkConflicts(t, src, conflict.Files, want...)
	}
}

// P14.5: Policy returns all, in order.
func TestPolicy(t *testing.T) {
	const src = `filecon "/a" any u:object_r:x:s; filecon "/a" any u:object_r:y:s; range_transition x y : c s; range_transition x y : c t; role_transition k x : c l; role_transition k x : c m; type_transition x y : c a "n"; type_transition x y : c b "n"; `
	checkConflicts(t, src, conflict.Policy, slices.Concat(conflicts("n", [2]int{0, 1}), conflicts("role", [2]int{0, 1}), conflicts("range", [2]int{0, 1}), conflicts("/a", [2]int{0, 1}))...)
	checkConflicts(t, "", conflict.Policy)
	if got := conflict.Policy(api.Policy{}); len(got) != 0 {
		t.Errorf("got %v", got)
	}
}

// P1: policies that are not valid.
func TestInvalidPolicies(t *testing.T) {
	deep := api.Expr{Op: api.ExprName}
	for range 60000 {
		deep = api.Expr{Op: api.ExprNot, Kids: []api.Expr{deep}}
	}
	shared := api.Expr{Op: api.ExprName}
	for range 60 {
		shared = api.Expr{Op: api.ExprAnd, Kids: []api.Expr{shared, shared}}
	}
	name := api.Expr{Op: api.ExprName, A: 3}
	odd := []api.Expr{
		{}, {Op: -1}, {Op: api.ExprNot}, {Op: api.ExprAnd, Kids: []api.Expr{name}}, {Op: api.ExprOr}, {Op: api.ExprName, Kids: []api.Expr{name}}, {Op: 99, Kids: []api.Expr{name, name}}, {Op: api.ExprXor, Kids: []api.Expr{name, name, name}},
		{Op: api.ExprName, A: -1}, {Op: api.ExprName, A: math.MaxInt}, {Op: api.ExprName, A: math.MinInt}, {Op: api.ExprCompare}, deep, shared,
	}
	for _, count := range []int{0, 4, 17, 70} {
		p := api.Policy{Bools: make([]api.Bool, count), Conds: odd}
		for _, cond := range []int{0, 1, -1, 5, -5, len(odd), -len(odd), len(odd) + 1, -len(odd) - 1, math.MaxInt, math.MinInt, math.MinInt + 1} {
			for n := range odd {
				p.Trans = append(p.Trans, api.Trans{Source: api.Set{1}, Target: api.Set{1}, Result: n, Cond: cond}, api.Trans{Source: api.Set{0, 0, 0, 1}, Target: api.Set{1}, Result: -n, Cond: n + 1})
			}
		}
		conflict.Policy(p)
	}
	p := api.Policy{
		RoleTrans: []api.RoleTrans{{Class: -1, Result: math.MinInt}, {Class: -1}}, Ranges: []api.RangeTrans{{Class: math.MaxInt}, {Class: math.MaxInt, Range: api.Range{Low: api.Level{Sens: -1}}}}, Files: []api.FileRule{{}, {Context: api.Context{Type: -1}}, {Kind: -1}},
	}
	if got := conflict.Policy(p); !slices.Equal(got, conflicts("", [2]int{0, 1})) {
		t.Errorf("got %v", got)
	}
	p = api.Policy{Files: make([]api.FileRule, 100000)}
	for i := range p.Files {
		p.Files[i].Pattern = strconv.Itoa(i)
	}
	if got := conflict.Files(p); len(got) != 0 {
		t.Errorf("got %v", got)
	}
}
