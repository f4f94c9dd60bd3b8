package newlabel

import (
	"accesscontrol/api"
	"accesscontrol/context"
)

// processClass is the name of the class whose transitions are those of processes.
const processClass = "process"

// objectRole is the number of the role of objects.
const objectRole = 0

// The kinds of transitions to a context.
const (
	forProcess = iota
	forObject
	forChange
	forMember
)

// request asks for the context that follows from those of a process and of what it works on.
type request struct {
	policy          *api.Policy
	state           []bool
	subject, object api.Context
	class           int
	name            string
}

// rules say what a kind of transitions leads to: the kind of its type transitions, the context if no transition applies, and what becomes of the role and the levels of that.
type rules struct {
	types  int
	start  func(r *request) api.Context
	role   func(r *request, role int) int
	levels func(r *request, levels api.Range) api.Range
}

// rulesOf returns the rules of a kind of transitions.
func rulesOf(kind int) rules {
	return [...]rules{
		forProcess: {api.TransCreate, subjectOf, newRole, newLevels},
		forObject:  {api.TransCreate, objectOfSubject, sameRole, newLevels},
		forChange:  {api.TransChange, objectOf, sameRole, sameLevels},
		forMember:  {api.TransMember, objectOfSubject, sameRole, sameLevels},
	}[kind]
}

// answer returns the context that transitions of a kind lead to.
func (r *request) answer(kind int) (api.Context, api.Errno) {
	switch {
	case !r.isValid(r.subject) || !r.isValid(r.object):
		return api.Context{}, api.ErrContext
	case r.class < 0 || r.class >= len(r.policy.Classes):
		return api.Context{}, api.ErrClass
	}
	c := r.follow(rulesOf(kind))
	if !r.isValid(c) {
		return api.Context{}, api.ErrContext
	}
	return c, api.OK
}

// follow returns the context that rules say, whether it is valid or not.
func (r *request) follow(l rules) api.Context {
	c := l.start(r)
	if result, ok := Type(*r.policy, r.state, l.types, r.subject.Type, r.object.Type, r.class, r.name); ok {
		c.Type = result
	}
	c.Role, c.Range = l.role(r, c.Role), l.levels(r, c.Range)
	return c
}

func (r *request) isValid(c api.Context) bool { return context.Check(*r.policy, c) == api.OK }

func subjectOf(r *request) api.Context { return r.subject }

func objectOf(r *request) api.Context { return r.object }

// objectOfSubject returns the context of an object that the process makes from another one.
func objectOfSubject(r *request) api.Context {
	low := r.subject.Range.Low
	return api.Context{User: r.subject.User, Role: objectRole, Type: r.object.Type, Range: api.Range{Low: low, High: low}}
}

func sameRole(_ *request, role int) int { return role }

func newRole(r *request, role int) int {
	if result, ok := Role(*r.policy, r.subject.Role, r.object.Type, r.class); ok {
		return result
	}
	return role
}

func sameLevels(_ *request, levels api.Range) api.Range { return levels }

func newLevels(r *request, levels api.Range) api.Range {
	if result, ok := Range(*r.policy, r.subject.Type, r.object.Type, r.class); ok {
		return result
	}
	return levels
}
