package server

import (
	"slices"

	"accesscontrol/api"
	"accesscontrol/clone"
	"accesscontrol/condition"
	"accesscontrol/context"
	"accesscontrol/sidtab"
)

// unlabeled is the name of the initial identifier for what has no context in the policy.
const unlabeled = "unlabeled"

// loaded is what a server has once a policy was loaded.
type loaded struct {
	policy api.Policy
	state  []bool
	sids   *sidtab.Table // nil without a policy
	seq    int
}

func (l *loaded) hasPolicy() bool { return l.sids != nil }

func (l *loaded) hasClass(n int) bool { return 0 <= n && n < len(l.policy.Classes) }

// adopt takes over another policy, with the values of the booleans and the identifiers from before. An error leaves it half done.
func (l *loaded) adopt(p api.Policy) (code api.Errno) {
	l.state = l.stateIn(p)
	l.sids, code = l.sidsIn(p)
	l.policy = p
	return code
}

// stateIn returns the state of another policy in which the booleans keep their values, by their names.
func (l *loaded) stateIn(p api.Policy) []bool {
	state := condition.State(p)
	for n, b := range p.Bools {
		old := slices.IndexFunc(l.policy.Bools, func(o api.Bool) bool { return o.Name == b.Name })
		if old >= 0 {
			state[n] = l.state[old]
		}
	}
	return state
}

// sidsIn returns the identifiers for another policy.
func (l *loaded) sidsIn(p api.Policy) (*sidtab.Table, api.Errno) {
	if l.hasPolicy() {
		sids, _, code := l.sids.Convert(l.policy, p)
		return sids, code
	}
	sids := sidtab.New(p)
	if sids == nil {
		return nil, api.ErrContext
	}
	return sids, api.OK
}

// identifier returns the identifier of a context that was found without an error.
func (l *loaded) identifier(c api.Context, code api.Errno) (int, api.Errno) {
	if code != api.OK {
		return 0, code
	}
	return l.sids.Sid(c)
}

// contextOf returns the context of an identifier for decisions.
func (l *loaded) contextOf(sid int) (api.Context, api.Errno) {
	c, ok := l.sids.Context(sid)
	switch {
	case !ok:
		return api.Context{}, api.ErrNone
	case l.sids.Mapped(sid):
		return c, api.OK
	}
	if c, ok = context.Initial(l.policy, unlabeled); !ok {
		return api.Context{}, api.ErrContext
	}
	return c, api.OK
}

// contextsOf returns the contexts of two identifiers for decisions.
func (l *loaded) contextsOf(source, target int) (subject, object api.Context, code api.Errno) {
	if subject, code = l.contextOf(source); code != api.OK {
		return api.Context{}, api.Context{}, code
	}
	if object, code = l.contextOf(target); code != api.OK {
		return api.Context{}, api.Context{}, code
	}
	return subject, object, api.OK
}

// copied returns all of it in memory of its own.
func (l *loaded) copied() loaded {
	return loaded{policy: clone.Policy(l.policy), state: slices.Clone(l.state), sids: l.sids.Copy(), seq: l.seq}
}
