package decide_test

import (
	"math"
	"slices"
	"testing"

	"accesscontrol/api"
	"accesscontrol/avtab"
	"accesscontrol/condition"
	"accesscontrol/constraint"
	"accesscontrol/context"
	"accesscontrol/decide"
	"accesscontrol/expand"
)

// model decides about one permission, as the definitions say it.
type model struct {
	p     api.Policy
	state []bool
	s, t  api.Context
	class int
}

// rules returns the numbers of the rules of a kind that match and have a permission, those that are active and those that are not.
func (m model) rules(kind, perm int) (active, inactive []int) {
	all := condition.Rules(m.p, m.state, kind)
	for n, r := range m.p.Rules {
		target := r.Target[0]&(1<<m.t.Type) != 0 || r.Self && m.s.Type == m.t.Type
		if r.Kind != kind || r.Class != m.class || r.Source[0]&(1<<m.s.Type) == 0 || !target || r.Perms&(1<<perm) == 0 {
			continue
		}
		if slices.Contains(all, n) {
			active = append(active, n)
		} else {
			inactive = append(inactive, n)
		}
	}
	return active, inactive
}

func (m model) forbidding(perm int) []int {
	var l []int
	for n, c := range m.p.Constraints {
		if !c.Validate && c.Class == m.class && c.Perms&(1<<perm) != 0 && !constraint.Eval(c.Expr, api.Case{First: m.s, Second: m.t}) {
			l = append(l, n)
		}
	}
	return l
}

func (m model) forbiddenByRole(perm int) bool {
	class := m.p.Classes[m.class]
	change := class.Perms[perm] == "transition" || class.Perms[perm] == "dyntransition"
	return class.Name == "process" && change && m.s.Role != m.t.Role && m.p.Roles[m.s.Role].Next[0]&(1<<m.t.Role) == 0
}

func (m model) areValid() bool {
	return context.Check(m.p, m.s) == api.OK && context.Check(m.p, m.t) == api.OK
}

func (m model) why(perm int) api.Reason {
	if !m.areValid() {
		return api.Reason{Why: api.WhyContext, Rule: -1, Constraint: -1}
	}
	active, inactive := m.rules(api.RuleAllow, perm)
	forbidding := m.forbidding(perm)
	switch {
	case len(active) == 0 && len(inactive) == 0:
		return api.Reason{Why: api.WhyRule, Rule: -1, Constraint: -1}
	case len(active) == 0:
		return api.Reason{Why: api.WhyBool, Rule: inactive[0], Constraint: -1}
	case len(forbidding) > 0:
		return api.Reason{Why: api.WhyConstraint, Rule: active[0], Constraint: forbidding[0]}
	case m.forbiddenByRole(perm):
		return api.Reason{Why: api.WhyRole, Rule: active[0], Constraint: -1}
	}
	return api.Reason{Why: api.WhyGranted, Rule: active[0], Constraint: -1}
}

func (m model) decision() api.Decision {
	if !m.areValid() {
		return api.Decision{}
	}
	d := api.Decision{Permissive: m.p.Types[m.s.Type].Permissive}
	for perm := range m.p.Classes[m.class].Perms {
		granted, _ := m.rules(api.RuleAllow, perm)
		if len(granted) > 0 && len(m.forbidding(perm)) == 0 && !m.forbiddenByRole(perm) {
			d.Allowed |= 1 << perm
		}
		if audited, _ := m.rules(api.RuleAuditAllow, perm); len(audited) > 0 {
			d.AuditAllow |= 1 << perm
		}
		if silent, _ := m.rules(api.RuleDontAudit, perm); len(silent) == 0 {
			d.AuditDeny |= 1 << perm
		}
	}
	return d
}

// access asks what a model is about.
func (m model) access() api.Decision { return decide.Access(m.p, m.state, m.s, m.t, m.class) }

// random picks a policy, and something to ask it.
func random(t *testing.T, seed int) (picker, model) {
	t.Helper()
	pick := newPicker(seed)
	return pick, model{pick.policy(t), pick.state(), pick.context(), pick.context(), pick(3)}
}

// P20.1 to P20.4, P20.6: decisions and reasons are those of the definitions.
func TestModel(t *testing.T) {
	count := map[int]int{}
	for seed := range 4000 {
		_, m := random(t, seed)
		d := m.access()
		if want := m.decision(); d != want {
			t.Errorf("seed %d: got %v, want %v", seed, d, want)
		}
		for perm, name := range m.p.Classes[m.class].Perms {
			why := decide.Why(m.p, m.state, m.s, m.t, m.class, perm)
			if want := m.why(perm); why != want {
				t.Errorf("seed %d, permission %d: got %v, want %v", seed, perm, why, want)
			}
			count[why.Why]++
			granted, want := decide.Allowed(m.p, m.state, m.s, m.t, m.class, perm), why.Why == api.WhyGranted
			if granted != want || d.Allowed>>perm&1 == 1 != want || decide.May(m.p, m.state, m.s, m.t, m.p.Classes[m.class].Name, name) != want {
				t.Errorf("seed %d, permission %d: the reason is %v, Allowed %v, the decision %v", seed, perm, why, granted, d)
			}
			if n, ok := decide.Perm(m.p, m.class, name); n != perm || !ok {
				t.Errorf("the permission %q: got %d, %v", name, n, ok)
			}
		}
	}
	for _, why := range []int{api.WhyGranted, api.WhyContext, api.WhyRule, api.WhyBool, api.WhyConstraint, api.WhyRole} {
		if count[why] < 100 {
			t.Errorf("only %d reasons %d", count[why], why)
		}
	}
}

// P20.1: without constraints and changes of the role, decisions are those of the access vector table.
func TestTable(t *testing.T) {
	seen := 0
	for seed := range 500 {
		_, m := random(t, seed)
		m.p.Constraints = nil
		table := avtab.New(expand.Entries(m.p))
		table.Activate(condition.Values(m.p, m.state))
		contexts := context.All(m.p)
		for _, m.s = range contexts {
			for _, m.t = range contexts {
				if m.s.Role != m.t.Role {
					continue
				}
				d := m.access()
				allow, auditallow, dontaudit := table.Find(m.s.Type, m.t.Type, m.class)
				if all := uint32(1)<<len(m.p.Classes[m.class].Perms) - 1; d.Allowed != allow || d.AuditAllow != auditallow || d.AuditDeny != all&^dontaudit {
					t.Errorf("seed %d: got %v, want %b, %b, %b", seed, d, allow, auditallow, dontaudit)
				}
				if d.Allowed != 0 {
					seen++
				}
			}
		}
	}
	if seen < 5000 {
		t.Errorf("only %d decisions allow anything", seen)
	}
}

// checkGrowth checks that a change of policies, from one of the two to the other one, allows nothing less and keeps the rest of decisions.
func checkGrowth(t *testing.T, pair func(picker, model) (less, more model)) {
	t.Helper()
	grown := 0
	for seed := range 6000 {
		less, more := pair(random(t, seed))
		small, large := less.access(), more.access()
		if small.Allowed&^large.Allowed != 0 {
			t.Errorf("seed %d: %b is allowed by the one, %b by the other policy", seed, small.Allowed, large.Allowed)
		}
		if small.Allowed != large.Allowed {
			grown++
		}
		if large.Allowed = small.Allowed; small != large {
			t.Errorf("seed %d: got %v and %v", seed, small, large)
		}
	}
	if grown < 100 {
		t.Errorf("only %d changes matter", grown)
	}
}

// P20.7: with one more allow rule nothing less is allowed.
func TestMoreRules(t *testing.T) {
	checkGrowth(t, func(pick picker, m model) (model, model) {
		more, r := m, pick.rule(m.p)
		r.Kind = api.RuleAllow
		more.p.Rules = slices.Insert(slices.Clone(m.p.Rules), pick(len(m.p.Rules)+1), r)
		return m, more
	})
}

// P20.7: with one more constraint nothing more is allowed.
func TestMoreConstraints(t *testing.T) {
	checkGrowth(t, func(pick picker, m model) (model, model) {
		less := m
		less.p.Constraints = slices.Insert(slices.Clone(m.p.Constraints), pick(len(m.p.Constraints)+1), pick.constraint(m.p))
		return less, m
	})
}

// P20.7: AuditAllow and Permissive are those of the policy without allow rules and constraints.
func TestAuditsAlone(t *testing.T) {
	audited := 0
	for seed := range 1000 {
		_, m := random(t, seed)
		before := m.access()
		m.p.Constraints = nil
		m.p.Rules = slices.DeleteFunc(slices.Clone(m.p.Rules), func(r api.Rule) bool { return r.Kind == api.RuleAllow })
		want := before
		want.Allowed = 0
		if after := m.access(); after != want {
			t.Errorf("seed %d: got %v, want %v", seed, after, want)
		}
		if before.AuditAllow != 0 {
			audited++
		}
	}
	if audited < 50 {
		t.Errorf("only %d decisions are audited", audited)
	}
}

// P1: any policies end without a panic, and nothing is written to arguments.
func TestAnyPolicy(t *testing.T) {
	full := api.Set{math.MaxUint64, math.MaxUint64, math.MaxUint64, math.MaxUint64}
	deep := api.Expr{Op: api.ExprName}
	for range 60000 {
		deep = api.Expr{Op: api.ExprNot, Kids: []api.Expr{deep}}
	}
	rules := []api.Rule{
		{Kind: api.RuleAllow, Source: full, Self: true, Perms: math.MaxUint32}, {Kind: api.RuleAllow, Source: full, Target: full, Perms: 1, Cond: 1},
		{Kind: api.RuleAllow, Source: full, Target: full, Perms: 1, Cond: math.MinInt}, {Kind: api.RuleDontAudit, Source: full, Target: full, Class: -1},
	}
	constraints := []api.Constraint{{Perms: math.MaxUint32, Expr: deep}, {Class: -1}, {Perms: 1}}
	policies := []api.Policy{
		{},
		{Classes: make([]api.Class, 2), Rules: rules},
		{Classes: []api.Class{{Name: "process", Perms: make([]string, 100)}, {Name: "process"}}, Types: make([]api.Type, 300), Roles: []api.Role{{Next: full}, {Types: full}}, Users: []api.User{{Roles: full}}, Sens: []string{""}, Rules: rules, Conds: []api.Expr{deep}, Constraints: constraints},
		{Classes: []api.Class{{Name: "process", Perms: []string{"transition", "transition"}}}, Types: make([]api.Type, 1), Roles: make([]api.Role, 2), Users: make([]api.User, 1), Sens: make([]string, 20), Rules: rules},
	}
	for i, p := range policies {
		for _, s := range []api.Context{{}, {Role: 1}, {Type: 299}, {User: -1, Role: math.MinInt, Type: math.MaxInt}} {
			for _, o := range []api.Context{{}, {Role: 1, Type: 299}, {Range: api.Range{High: api.Level{Sens: math.MaxInt, Cats: math.MaxUint64}}}} {
				for _, class := range []int{0, 1, -1, math.MaxInt, math.MinInt} {
					decide.Access(p, nil, s, o, class)
					for _, perm := range []int{0, 31, 32, 63, 64, 99, 100, -1, math.MaxInt, math.MinInt} {
						if granted := decide.Allowed(p, nil, s, o, class, perm); granted != (decide.Why(p, nil, s, o, class, perm).Why == api.WhyGranted) {
							t.Errorf("the policy %d, %v, %v, %d, %d: got %v", i, s, o, class, perm, granted)
						}
					}
				}
				decide.May(p, []bool{true}, s, o, "process", "")
			}
		}
		decide.Class(p, "")
		decide.Perm(p, 0, "")
		decide.Role(p, 0, 1)
	}
}

// P20.1: the state, and the policy, are not changed.
func TestArgumentsAreKept(t *testing.T) {
	_, m := random(t, 7)
	rules, constraints, state := slices.Clone(m.p.Rules), slices.Clone(m.p.Constraints), slices.Clone(m.state)
	m.access()
	decide.Why(m.p, m.state, m.s, m.t, m.class, 0)
	kept := slices.EqualFunc(constraints, m.p.Constraints, func(a, b api.Constraint) bool {
		return a.Class == b.Class && a.Perms == b.Perms && a.Expr.Op == b.Expr.Op
	})
	if !slices.Equal(rules, m.p.Rules) || !slices.Equal(state, m.state) || !kept {
		t.Errorf("an argument was changed")
	}
}
