package optimizer_test

import (
	"math"
	"reflect"
	"slices"
	"testing"

	"accesscontrol/api"
	"accesscontrol/bitset"
	"accesscontrol/context"
	"accesscontrol/decide"
	"accesscontrol/expand"
	"accesscontrol/newlabel"
	"accesscontrol/optimizer"
)

// results returns what the functions make of a policy, by their names.
func results(p api.Policy) map[string]api.Policy {
	return map[string]api.Policy{
		"Optimize": optimizer.Optimize(p), "Rules": optimizer.Rules(p), "Conditions": optimizer.Conditions(p), "Without": optimizer.Without(p, optimizer.Redundant(p)),
	}
}

// P24.6: results have the same meaning, are valid, and not greater.
func TestSmaller(t *testing.T) {
	for seed := range 1000 {
		p := newPicker(seed).policy(t)
		for name, q := range results(p) {
			checkValid(t, q)
			if !modelSame(p, q) || !optimizer.Same(p, q) {
				t.Errorf("seed %d: %s changes the meaning of %s", seed, name, brief(p))
			}
			if len(q.Rules) > len(p.Rules) || len(q.Conds) > len(p.Conds) || len(q.Trans) > len(p.Trans) {
				t.Errorf("seed %d: %s makes %s greater", seed, name, brief(p))
			}
		}
	}
}

// P24.7: what was done is not done again.
func TestTwice(t *testing.T) {
	for seed := range 1000 {
		p := newPicker(seed).policy(t)
		l := results(p)
		if got := optimizer.Redundant(l["Without"]); len(got) > 0 {
			t.Errorf("seed %d: %v are redundant", seed, got)
		}
		if i, j, found := firstPair(l["Rules"].Rules); found {
			t.Errorf("seed %d: %d and %d can be joined", seed, i, j)
		}
		if !same(optimizer.Rules(l["Rules"]), l["Rules"]) || !same(optimizer.Conditions(l["Conditions"]), l["Conditions"]) {
			t.Errorf("seed %d: twice is not once", seed)
		}
	}
}

// P24.8: without conditions, the entries are the same, and what is forbidden.
func TestEntries(t *testing.T) {
	forbidden := 0
	for seed := range 1000 {
		p := newPicker(seed).policy(t)
		for i := range p.Rules {
			p.Rules[i].Cond = 0
		}
		q := optimizer.Optimize(p)
		if !slices.Equal(expand.Entries(p), expand.Entries(q)) {
			t.Errorf("seed %d: the entries of %v become those of %v", seed, p.Rules, q.Rules)
		}
		if !slices.Equal(expand.Never(p), expand.Never(q)) {
			t.Errorf("seed %d: %v becomes %v", seed, expand.Never(p), expand.Never(q))
		}
		forbidden += len(expand.Never(p))
	}
	if forbidden < 500 {
		t.Errorf("only %d entries are forbidden", forbidden)
	}
}

// P2: an optimized policy gives the same decisions and types in every state.
func TestDecisions(t *testing.T) {
	granted := 0
	for seed := range 60 {
		p := newPicker(seed).policy(t)
		q := optimizer.Optimize(p)
		for _, state := range states(p) {
			for _, s := range context.All(p) {
				for _, o := range context.All(p) {
					for class := range p.Classes {
						d := decide.Access(p, state, s, o, class)
						if d != decide.Access(q, state, s, o, class) {
							t.Fatalf("seed %d: %v, %v, %v, %d", seed, state, s, o, class)
						}
						if d.Allowed != 0 {
							granted++
						}
						for kind := range 4 {
							a, found := newlabel.Type(p, state, kind, s.Type, o.Type, class, "log")
							if b, ok := newlabel.Type(q, state, kind, s.Type, o.Type, class, "log"); a != b || found != ok {
								t.Fatalf("seed %d: the type for %v, %v, %v, %d", seed, state, s, o, class)
							}
						}
					}
				}
			}
		}
	}
	if granted < 1000 {
		t.Errorf("only %d decisions grant something", granted)
	}
}

// The functions change no policy, and results share no memory with it.
func TestMemory(t *testing.T) {
	make := func() api.Policy {
		p := withRules(allow("a", "b", "r", x), allow("c", "b", "r", x), allow("a", "b", "w", y), allow("d", "d", "c", never))
		p.Trans = []api.Trans{{Kind: api.TransCreate, Source: set("a"), Target: set("b"), Cond: xOrY}, {Kind: api.TransCreate, Source: set("b"), Target: set("b")}}
		return p
	}
	for _, name := range []string{"Optimize", "Rules", "Conditions", "Without"} {
		p := make()
		q := results(p)[name]
		want := results(make())[name]
		scribble(reflect.ValueOf(q))
		if !same(p, make()) {
			t.Errorf("%s: the policy is changed", name)
		}
		p = make()
		q = results(p)[name]
		scribble(reflect.ValueOf(p))
		if !same(q, want) {
			t.Errorf("%s: the result is changed", name)
		}
	}
	p, before := make(), make()
	optimizer.Same(p, p)
	if l := optimizer.Redundant(p); len(l) != 1 || !same(p, before) {
		t.Errorf("got %v, %s", l, brief(p))
	}
	// Capacity behind the lists of a policy is not used.
	rules := append(make().Rules, allow("b", "b", "r", 0))
	p.Rules = rules[:4]
	for name := range results(p) {
		if rules[4] != allow("b", "b", "r", 0) {
			t.Errorf("%s writes behind the rules", name)
		}
	}
}

// P1: any policies end without a panic.
func TestAnyPolicy(t *testing.T) {
	every := bitset.All(256)
	deep := number(0)
	for range 30000 {
		deep = not(deep)
	}
	odd := api.Policy{
		Bools: make([]api.Bool, 300),
		Conds: []api.Expr{deep, {}, {Op: 99}, number(-1), number(math.MinInt), number(299), op(api.ExprAnd), op(api.ExprNot, number(0), number(0), number(0)), {Op: api.ExprName, A: 1, Names: []string{"x"}, Kids: []api.Expr{deep}}},
	}
	for range 100 {
		odd.Conds = append(odd.Conds, number(len(odd.Conds)%20))
	}
	for _, cond := range []int{math.MinInt, math.MinInt + 1, math.MaxInt, -110, 110, 109, -109, 65, -65, 64, -64, 1, -1, 5, 0} {
		for _, kind := range []int{api.RuleAllow, api.RuleNeverAllow, -3, math.MaxInt} {
			odd.Rules = append(odd.Rules, api.Rule{Kind: kind, Source: every, Target: every, Self: true, Class: cond, Perms: math.MaxUint32, Cond: cond}, api.Rule{Kind: kind, Cond: cond}, api.Rule{Kind: kind, Source: bitset.Of(255), Self: true, Perms: 1, Cond: cond})
			odd.Trans = append(odd.Trans, api.Trans{Kind: kind, Source: every, Class: cond, Result: cond, Cond: cond})
		}
	}
	for _, p := range []api.Policy{{}, odd, {Rules: odd.Rules}, {Bools: odd.Bools, Trans: odd.Trans}, {Conds: odd.Conds, Rules: make([]api.Rule, 10000)}} {
		for name, q := range results(p) {
			optimizer.Same(p, q)
			optimizer.Same(q, p)
			if len(q.Rules) > len(p.Rules) {
				t.Errorf("%s: got %d rules", name, len(q.Rules))
			}
		}
		optimizer.Without(p, []int{math.MinInt, math.MaxInt, -1})
	}
	for _, p := range []api.Policy{odd, {}} {
		for _, q := range []api.Policy{odd, {}, {Bools: odd.Bools}, {Bools: odd.Bools, Conds: []api.Expr{{}}, Rules: odd.Rules}} {
			optimizer.Same(p, q)
		}
	}
}
