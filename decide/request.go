package decide

import (
	"slices"

	"accesscontrol/api"
	"accesscontrol/bitset"
	"accesscontrol/condition"
	"accesscontrol/constraint"
	"accesscontrol/context"
)

// The class, and its permissions, that a change of the role is about.
const (
	processClass  = "process"
	transition    = "transition"
	ownTransition = "dyntransition"
)

// request is what a decision is about.
type request struct {
	policy          *api.Policy
	state           []bool
	subject, object api.Context
	class           int
}

func (r *request) hasValidContexts() bool {
	return context.Check(*r.policy, r.subject) == api.OK && context.Check(*r.policy, r.object) == api.OK
}

// decision returns the decision for a class and contexts that exist.
func (r *request) decision() api.Decision {
	var d api.Decision
	for _, part := range []func(*api.Decision){r.allow, r.auditAllow, r.auditDeny, r.permissive} {
		part(&d)
	}
	return d
}

func (r *request) allow(d *api.Decision) {
	forbidden, _ := constraint.Denied(*r.policy, r.class, r.subject, r.object)
	d.Allowed = r.perms(api.RuleAllow) &^ forbidden &^ r.forbiddenByRole()
}

func (r *request) auditAllow(d *api.Decision) { d.AuditAllow = r.perms(api.RuleAuditAllow) }

func (r *request) auditDeny(d *api.Decision) {
	all := bit(len(r.policy.Classes[r.class].Perms)) - 1
	d.AuditDeny = all &^ r.perms(api.RuleDontAudit)
}

func (r *request) permissive(d *api.Decision) {
	d.Permissive = r.policy.Types[r.subject.Type].Permissive
}

// reason returns the reason of the decision about a permission, for a class and contexts that exist.
func (r *request) reason(perm uint32) api.Reason {
	rule := r.firstAllow(perm, true)
	if rule == none {
		return r.reasonWithoutRule(perm)
	}
	forbidding := r.firstConstraint(perm)
	switch {
	case forbidding != none:
		return api.Reason{Why: api.WhyConstraint, Rule: rule, Constraint: forbidding}
	case r.forbiddenByRole()&perm != 0:
		return api.Reason{Why: api.WhyRole, Rule: rule, Constraint: none}
	}
	return api.Reason{Why: api.WhyGranted, Rule: rule, Constraint: none}
}

// reasonWithoutRule returns the reason where no active rule allows a permission.
func (r *request) reasonWithoutRule(perm uint32) api.Reason {
	disabled := r.firstAllow(perm, false)
	if disabled == none {
		return api.Reason{Why: api.WhyRule, Rule: none, Constraint: none}
	}
	return api.Reason{Why: api.WhyBool, Rule: disabled, Constraint: none}
}

// perms returns the permissions of all active rules of a kind that match.
func (r *request) perms(kind int) uint32 {
	perms := uint32(0)
	for n := range r.policy.Rules {
		rule := &r.policy.Rules[n]
		if rule.Kind == kind && r.matches(rule) && r.isActive(rule) {
			perms |= rule.Perms
		}
	}
	return perms
}

// firstAllow returns the number of the first allow rule, of those that are active or of those that are not, that matches and has a permission.
func (r *request) firstAllow(perm uint32, active bool) int {
	for n := range r.policy.Rules {
		rule := &r.policy.Rules[n]
		if rule.Kind == api.RuleAllow && rule.Perms&perm != 0 && r.matches(rule) && r.isActive(rule) == active {
			return n
		}
	}
	return none
}

func (r *request) matches(rule *api.Rule) bool {
	source, target := r.subject.Type, r.object.Type
	return rule.Class == r.class && bitset.Has(rule.Source, source) && (bitset.Has(rule.Target, target) || rule.Self && source == target)
}

func (r *request) isActive(rule *api.Rule) bool {
	return condition.Active(*r.policy, r.state, rule.Cond)
}

// firstConstraint returns the number of the first constraint that forbids a permission.
func (r *request) firstConstraint(perm uint32) int {
	return slices.IndexFunc(r.policy.Constraints, func(x api.Constraint) bool {
		return !x.Validate && x.Class == r.class && x.Perms&perm != 0 && !constraint.Eval(x.Expr, api.Case{First: r.subject, Second: r.object})
	})
}

// forbiddenByRole returns the permissions that the change of the role concerns, if it is forbidden.
func (r *request) forbiddenByRole() uint32 {
	if r.policy.Classes[r.class].Name != processClass || Role(*r.policy, r.subject.Role, r.object.Role) {
		return 0
	}
	return r.named(transition) | r.named(ownTransition)
}

// named returns the permission of the class with a name, or no permission if there is none.
func (r *request) named(name string) uint32 {
	n, ok := Perm(*r.policy, r.class, name)
	if !ok {
		return 0
	}
	return bit(n)
}
