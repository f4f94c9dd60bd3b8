package linker

import (
	"slices"
	"strconv"

	"accesscontrol/api"
	"accesscontrol/bitset"
	"accesscontrol/nameset"
	"accesscontrol/scope"
)

// failure is the error of a link: the fault, and the number of the module that it concerns.
type failure struct {
	module int
	fault  api.Fault
}

func (f failure) Error() string {
	return "module " + strconv.Itoa(f.module) + ": error " + strconv.Itoa(int(f.fault.Code))
}

// link makes a policy of modules, step by step. It stands in a module, at a position.
type link struct {
	modules  []api.Module
	policy   api.Policy
	spaces   map[int]space // by the kind of symbols
	declared []api.Symbol  // by all modules
	module   int
	pos      api.Pos
}

func newLink(l []api.Module) *link {
	types := space{}
	return &link{
		modules: l,
		policy:  api.Policy{Roles: []api.Role{{Name: api.ObjectRole}}},
		spaces: map[int]space{
			api.SymClass: {}, api.SymType: types, api.SymAttribute: types, api.SymRole: {api.ObjectRole: true},
			api.SymUser: {}, api.SymBool: {}, api.SymSensitivity: {}, api.SymCategory: {},
		},
	}
}

// run returns the first failure. Each step expects that those before it have found none in any module.
func (k *link) run() error {
	for _, step := range []func(*api.Module) error{k.name, k.places, k.declare, k.require, k.fillAttributes, k.fillRoles, k.mean} {
		for i := range k.modules {
			k.module, k.pos = i, api.Pos{}
			if err := step(&k.modules[i]); err != nil {
				return err
			}
		}
	}
	return nil
}

// fail returns the failure of an error that names nothing, where the link stands; none for OK.
func (k *link) fail(code api.Errno) error { return k.failOf(code, "") }

// failOf returns the failure of an error that concerns a name.
func (k *link) failOf(code api.Errno, name string) error {
	if code == api.OK {
		return nil
	}
	return failure{k.module, api.Fault{Code: code, Pos: k.pos, Name: name}}
}

// visit stands at each of some statements, and calls a function for it, up to the first failure.
func (k *link) visit(l []api.Stmt, do func(*api.Stmt) error) error {
	for i := range l {
		k.pos = l[i].Pos
		if err := do(&l[i]); err != nil {
			return err
		}
	}
	return nil
}

// name is the step that compares the names of modules.
func (k *link) name(m *api.Module) error {
	if slices.ContainsFunc(k.modules[:k.module], func(before api.Module) bool { return before.Name == m.Name }) {
		return k.failOf(api.ErrTwice, m.Name)
	}
	return nil
}

// places is the step that looks where statements stand, and whether what they use is visible.
func (k *link) places(m *api.Module) error {
	if err := k.visit(m.Stmts, k.place); err != nil {
		return err
	}
	if f := scope.Check(*m); f.Code != api.OK {
		return failure{k.module, f}
	}
	return nil
}

// place returns the failure of a statement that stands in no block, or of those in its blocks.
func (k *link) place(s *api.Stmt) error {
	switch s.Kind {
	case api.StmtOptional:
		return k.fail(api.ErrKind)
	case api.StmtIf:
		if err := k.visit(s.Then, k.placeInIf); err != nil {
			return err
		}
		return k.visit(s.Else, k.placeInIf)
	}
	return nil
}

func (k *link) placeInIf(s *api.Stmt) error {
	if s.Kind == api.StmtTrans || s.Kind == api.StmtRule && s.Op != api.RuleNeverAllow {
		return nil
	}
	return k.fail(api.ErrKind)
}

// require is the step that asks for what modules require.
func (k *link) require(m *api.Module) error {
	need, _ := scope.Symbols(*m)
	if missing := scope.Missing(need, k.declared); len(missing) > 0 {
		k.pos = missing[0].Pos
		return k.failOf(api.ErrRequire, missing[0].Name)
	}
	return nil
}

// fillAttributes is the step that gives attributes their types.
func (k *link) fillAttributes(m *api.Module) error {
	return k.visit(m.Stmts, func(s *api.Stmt) error {
		if s.Kind != api.StmtType && s.Kind != api.StmtMember {
			return nil
		}
		n, found := Symbol(k.policy, api.SymType, s.Name)
		if !found {
			return k.fail(api.ErrNone)
		}
		for _, name := range s.List {
			a, found := Symbol(k.policy, api.SymAttribute, name)
			if !found {
				return k.fail(api.ErrNone)
			}
			types := &k.policy.Attrs[a].Types
			*types = bitset.With(*types, n)
		}
		return nil
	})
}

// fillRoles is the step that gives roles their types.
func (k *link) fillRoles(m *api.Module) error {
	return k.visit(m.Stmts, func(s *api.Stmt) error {
		if s.Kind != api.StmtRole {
			return nil
		}
		types, err := k.types(s.Source)
		if err != nil {
			return err
		}
		n, found := Symbol(k.policy, api.SymRole, s.Name)
		if !found {
			return k.fail(api.ErrNone)
		}
		k.policy.Roles[n].Types = types
		return nil
	})
}

// mean is the step that adds what the other statements mean.
func (k *link) mean(m *api.Module) error {
	return k.visit(m.Stmts, k.statement)
}

// types returns the types that a set of names means.
func (k *link) types(n api.NameSet) (api.Set, error) {
	s, code := nameset.Types(n, k.env())
	return s, k.fail(code)
}

// env is the environment of the policy, in the memory of the policy.
func (k *link) env() api.Env {
	return api.Env{Types: k.policy.Types, Attrs: k.policy.Attrs}
}
