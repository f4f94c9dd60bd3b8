package optimizer_test

import (
	"maps"
	"slices"
	"testing"

	"accesscontrol/api"
	"accesscontrol/boolexp"
	"accesscontrol/condition"
	"accesscontrol/expand"
	"accesscontrol/optimizer"
)

// gift is what a rule may give permissions for.
type gift struct{ kind, source, target, class int }

// given returns what the rules of a policy give in a state.
func given(p api.Policy, state []bool) map[gift]uint32 {
	all := map[gift]uint32{}
	for _, r := range p.Rules {
		if r.Kind != api.RuleNeverAllow && !condition.Active(p, state, r.Cond) {
			continue
		}
		for _, pair := range expand.Rule(r) {
			all[gift{r.Kind, pair[0], pair[1], r.Class}] |= r.Perms
		}
	}
	return all
}

// states returns all states of the booleans of a policy.
func states(p api.Policy) [][]bool {
	var l [][]bool
	for n := range 1 << len(p.Bools) {
		l = append(l, condition.Numbered(p, n))
	}
	return l
}

// sameRules is the definition of lists of rules with the same meaning.
func sameRules(a, b api.Policy) bool {
	for _, state := range states(a) {
		if !maps.Equal(given(a, state), given(b, state)) {
			return false
		}
	}
	return true
}

// activity is a transition without Cond, and the states in which it is active.
type activity struct {
	trans  api.Trans
	states string
}

func activities(p api.Policy) []activity {
	var l []activity
	for _, t := range p.Trans {
		x, ever := activity{trans: t}, false
		x.trans.Cond = 0
		for _, state := range states(p) {
			active := condition.Active(p, state, t.Cond)
			ever = ever || active
			x.states += map[bool]string{true: "1", false: "0"}[active]
		}
		if ever {
			l = append(l, x)
		}
	}
	return l
}

// modelSame is the definition of policies with the same meaning.
func modelSame(a, b api.Policy) bool {
	frames := []api.Policy{a, b}
	for i := range frames {
		frames[i].Rules, frames[i].Conds, frames[i].Trans = nil, nil, nil
	}
	return same(frames[0], frames[1]) && sameRules(a, b) && slices.Equal(activities(a), activities(b))
}

// without returns the policy without some of its rules.
func without(p api.Policy, l []int) api.Policy {
	var rules []api.Rule
	for n, r := range p.Rules {
		if !slices.Contains(l, n) {
			rules = append(rules, r)
		}
	}
	p.Rules = rules
	return p
}

func modelRedundant(p api.Policy) []int {
	var taken []int
	for n := range p.Rules {
		if more := slices.Concat(taken, []int{n}); sameRules(p, without(p, more)) {
			taken = more
		}
	}
	return taken
}

// joinable reports whether two rules can be joined.
func joinable(a, b api.Rule) bool {
	return a.Kind == b.Kind && a.Class == b.Class && a.Cond == b.Cond && a.Self == b.Self &&
		(a.Source == b.Source && a.Target == b.Target || a.Perms == b.Perms && a.Source == b.Source || a.Perms == b.Perms && a.Target == b.Target)
}

// firstPair returns the first rule that can be joined with a later one, and the first such one.
func firstPair(l []api.Rule) (int, int, bool) {
	for i := range l {
		for j := i + 1; j < len(l); j++ {
			if joinable(l[i], l[j]) {
				return i, j, true
			}
		}
	}
	return 0, 0, false
}

func modelRules(l []api.Rule) []api.Rule {
	l = slices.Clone(l)
	for {
		i, j, found := firstPair(l)
		if !found {
			return l
		}
		a, b := &l[i], l[j]
		switch {
		case a.Source == b.Source && a.Target == b.Target:
			a.Perms |= b.Perms
		case a.Source == b.Source:
			for k := range a.Target {
				a.Target[k] |= b.Target[k]
			}
		default:
			for k := range a.Source {
				a.Source[k] |= b.Source[k]
			}
		}
		l = slices.Delete(l, j, j+1)
	}
}

// modelConditions follows the words of the promise, with conditions as boolexp has them.
func modelConditions(t *testing.T, p api.Policy) api.Policy {
	t.Helper()
	var kept []api.Expr
	replaced := map[int]int{0: 0}
	const dropped = 1000
	for i, e := range p.Conds {
		n, source := i+1, condition.Source(e, p)
		value, constant := boolexp.Constant(source)
		isUsed := func(cond int) bool { return cond == n || cond == -n }
		used := slices.ContainsFunc(p.Rules, func(r api.Rule) bool { return isUsed(r.Cond) }) || slices.ContainsFunc(p.Trans, func(t api.Trans) bool { return isUsed(t.Cond) })
		switch {
		case constant && value:
			replaced[n], replaced[-n] = 0, dropped
			continue
		case constant:
			replaced[n], replaced[-n] = dropped, 0
			continue
		case !used:
			continue
		}
		for k, before := range kept {
			before = condition.Source(before, p)
			if equal, code := boolexp.Equal(before, source); equal && code == api.OK {
				replaced[n] = k + 1
			} else if equal, code := boolexp.Equal(boolexp.Negate(before), source); equal && code == api.OK {
				replaced[n] = -k - 1
			} else {
				continue
			}
			break
		}
		if replaced[n] == 0 {
			kept = append(kept, e)
			replaced[n] = len(kept)
		}
		replaced[-n] = -replaced[n]
	}
	p.Conds = kept
	p.Rules, p.Trans = slices.Clone(p.Rules), slices.Clone(p.Trans)
	for i := range p.Rules {
		p.Rules[i].Cond = replaced[p.Rules[i].Cond]
	}
	for i := range p.Trans {
		p.Trans[i].Cond = replaced[p.Trans[i].Cond]
	}
	p.Rules = slices.DeleteFunc(p.Rules, func(r api.Rule) bool { return r.Cond == dropped })
	p.Trans = slices.DeleteFunc(p.Trans, func(t api.Trans) bool { return t.Cond == dropped })
	return p
}

// P24.2 to P24.5: random policies.
func TestModel(t *testing.T) {
	count := map[string]int{}
	note := func(what string, is bool) {
		if is {
			count[what]++
		}
	}
	for seed := range 3000 {
		p := newPicker(seed).policy(t)
		redundant := modelRedundant(p)
		if got := optimizer.Redundant(p); !slices.Equal(got, redundant) {
			t.Errorf("seed %d: Redundant of %v with %v: got %v, want %v", seed, p.Rules, p.Conds, got, redundant)
		}
		joined := modelRules(p.Rules)
		if got := optimizer.Rules(p); !slices.Equal(got.Rules, joined) {
			t.Errorf("seed %d: Rules of %v: got %v, want %v", seed, p.Rules, got.Rules, joined)
		}
		conditions := modelConditions(t, p)
		if got := optimizer.Conditions(p); !same(got, conditions) {
			t.Errorf("seed %d: Conditions of %s: got %s, want %s", seed, brief(p), brief(got), brief(conditions))
		}
		want := without(conditions, modelRedundant(conditions))
		want.Rules = modelRules(want.Rules)
		want = modelConditions(t, want)
		if got := optimizer.Optimize(p); !same(got, want) {
			t.Errorf("seed %d: Optimize of %s: got %s, want %s", seed, brief(p), brief(got), brief(want))
		}
		note("redundant", len(redundant) > 0)
		note("several redundant", len(redundant) > 1)
		note("joined", len(joined) < len(p.Rules))
		note("other conditions", len(conditions.Conds) < len(p.Conds))
		note("fewer transitions", len(want.Trans) < len(p.Trans))
		note("conditions remain", len(want.Conds) > 1)
	}
	for what, least := range map[string]int{"redundant": 1000, "several redundant": 300, "joined": 300, "other conditions": 1000, "fewer transitions": 50, "conditions remain": 300} {
		if count[what] < least {
			t.Errorf("%s: only %d", what, count[what])
		}
	}
}

// P24.3: random rules of which many can be joined, so that their order matters.
func TestModelOfRules(t *testing.T) {
	joins, backwards := 0, 0
	for seed := range 5000 {
		pick := newPicker(seed)
		var rules []api.Rule
		for range pick(14) {
			r := allow([]string{"a", "b", "c", "ab", "ac", "bc"}[pick(6)], []string{"b", "c", "d", "bc", "cd", "bs"}[pick(6)], []string{"r", "w", "c", "rw", "rc", "wc"}[pick(6)], pick.one(0, 0, 0, 0, 1))
			rules = append(rules, r)
		}
		want := modelRules(rules)
		if got := optimizer.Rules(withRules(rules...)); !same(got, withRules(want...)) {
			t.Errorf("seed %d: Rules of %v: got %v, want %v", seed, rules, got.Rules, want)
		}
		joins += len(rules) - len(want)
		slices.Reverse(rules)
		if len(modelRules(rules)) != len(want) {
			backwards++
		}
	}
	if joins < 4000 || backwards < 100 {
		t.Errorf("%d joins, %d lists whose order matters", joins, backwards)
	}
}

// changed returns a policy that may have the same meaning: a rule, a condition or a transition is another one.
func (pick picker) changed(p api.Policy) api.Policy {
	p.Rules, p.Conds, p.Trans = slices.Clone(p.Rules), slices.Clone(p.Conds), slices.Clone(p.Trans)
	conds := len(p.Conds)
	switch pick(8) {
	case 0:
		if len(p.Rules) > 0 {
			n := pick(len(p.Rules))
			p.Rules = slices.Delete(p.Rules, n, n+1)
		}
	case 1:
		p.Rules = slices.Insert(p.Rules, pick(len(p.Rules)+1), pick.rule(conds))
	case 2:
		if len(p.Rules) > 0 {
			r := &p.Rules[pick(len(p.Rules))]
			r.Perms |= uint32(pick(8))
		}
	case 3:
		if conds > 0 {
			p.Conds[pick(conds)] = pick.cond(3)
		}
	case 4:
		if len(p.Trans) > 0 {
			p.Trans[pick(len(p.Trans))].Cond = pick(2*conds+1) - conds
		}
	case 5:
		if len(p.Trans) > 0 {
			n := pick(len(p.Trans))
			p.Trans = slices.Delete(p.Trans, n, n+1)
		}
	case 6:
		slices.Reverse(p.Rules)
	case 7:
		p = optimizer.Optimize(p)
	}
	return p
}

// P24.1: random pairs of policies.
func TestModelOfSame(t *testing.T) {
	count := map[bool]int{}
	for seed := range 4000 {
		pick := newPicker(seed)
		a := pick.policy(t)
		b := pick.changed(a)
		if pick(2) == 0 {
			b = pick.changed(b)
		}
		want := modelSame(a, b)
		count[want]++
		if optimizer.Same(a, b) != want || optimizer.Same(b, a) != want {
			t.Errorf("seed %d: Same of %s and %s: got %v and %v, want %v", seed, brief(a), brief(b), optimizer.Same(a, b), optimizer.Same(b, a), want)
		}
	}
	if min(count[true], count[false]) < 500 {
		t.Errorf("got %v", count)
	}
}
