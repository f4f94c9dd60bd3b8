package decompiler

import (
	"accesscontrol/api"
)

// always is the Cond of what is always active.
const always = 0

// element is what a statement says of a policy, besides its symbols. Its Cond says when it is active.
type element interface {
	cond() int
}

type (
	roleChanges     api.Role // the roles to which a role may change
	emptyRule       int      // a rule that linking leaves out; the number is its Cond
	rule            api.Rule
	transition      api.Trans
	roleTransition  api.RoleTrans
	rangeTransition api.RangeTrans
	constraintRule  api.Constraint
	initialSid      api.InitialSid
	fileRule        api.FileRule
	permissiveTypes []string // their names
	assertion       api.Assert
)

func (roleChanges) cond() int     { return always }
func (e emptyRule) cond() int     { return int(e) }
func (r rule) cond() int          { return r.Cond }
func (t transition) cond() int    { return t.Cond }
func (roleTransition) cond() int  { return always }
func (rangeTransition) cond() int { return always }
func (constraintRule) cond() int  { return always }
func (initialSid) cond() int      { return always }
func (fileRule) cond() int        { return always }
func (permissiveTypes) cond() int { return always }
func (assertion) cond() int       { return always }

// elements returns the elements of a policy, in the order of their statements. Each condition has an empty rule, so that conditions are linked in their order.
func elements(p *api.Policy) []element {
	var l []element
	for n, r := range p.Roles {
		if n > 0 && r.Next != (api.Set{}) {
			l = append(l, roleChanges(r))
		}
	}
	for n := range p.Conds {
		l = append(l, emptyRule(n+1))
	}
	for _, r := range p.Rules {
		l = append(l, rule(r))
	}
	for _, t := range p.Trans {
		l = append(l, transition(t))
	}
	for _, t := range p.RoleTrans {
		l = append(l, roleTransition(t))
	}
	for _, t := range p.Ranges {
		l = append(l, rangeTransition(t))
	}
	for _, c := range p.Constraints {
		l = append(l, constraintRule(c))
	}
	return append(l, lastElements(p)...)
}

// lastElements returns those that stand behind constraints.
func lastElements(p *api.Policy) []element {
	var l []element
	for _, s := range p.Sids {
		l = append(l, initialSid(s))
	}
	for _, f := range p.Files {
		l = append(l, fileRule(f))
	}
	if names := permissive(p); len(names) > 0 {
		l = append(l, names)
	}
	for _, a := range p.Asserts {
		l = append(l, assertion(a))
	}
	return l
}

func permissive(p *api.Policy) permissiveTypes {
	var names permissiveTypes
	for _, t := range p.Types {
		if t.Permissive {
			names = append(names, t.Name)
		}
	}
	return names
}

// count returns how many statements elements have, with those in blocks: an if statement has two if Else is empty, and otherwise three.
func count(l []element) int {
	n := len(l)
	for _, e := range l {
		switch cond := e.cond(); {
		case cond > always:
			n++
		case cond < always:
			n += 2
		}
	}
	return n
}
