package linker

import (
	"slices"

	"accesscontrol/api"
	"accesscontrol/bitset"
	"accesscontrol/level"
	"accesscontrol/nameset"
)

// statement adds what a statement means that stands in no block.
func (k *link) statement(s *api.Stmt) error {
	switch s.Kind {
	case api.StmtRoleAllow:
		return k.roleAllow(s)
	case api.StmtRoleTrans:
		return k.roleTrans(s)
	case api.StmtUser:
		return k.user(s)
	case api.StmtRule, api.StmtTrans:
		return k.conditional(s, 0)
	case api.StmtRangeTrans:
		return k.rangeTrans(s)
	case api.StmtConstrain, api.StmtValidate:
		return k.constraint(s)
	case api.StmtIf:
		return k.blocks(s)
	case api.StmtSid:
		return k.initialSid(s)
	case api.StmtFile:
		return k.fileRule(s)
	case api.StmtPermissive:
		return k.permissive(s)
	case api.StmtAssert:
		return k.assertion(s)
	}
	return nil
}

// conditional adds what a statement means that may stand in a block of if; cond is the Cond of the block.
func (k *link) conditional(s *api.Stmt, cond int) error {
	if s.Kind == api.StmtRule {
		return k.rule(s, cond)
	}
	return k.trans(s, cond)
}

func (k *link) roleAllow(s *api.Stmt) error {
	from, err := k.processRoles(s.Source)
	if err != nil {
		return err
	}
	to, err := k.processRoles(s.Target)
	if err != nil {
		return err
	}
	for _, n := range bitset.List(from) {
		next := &k.policy.Roles[n].Next
		*next = bitset.Union(*next, to)
	}
	return nil
}

// processRoles returns what a set of names means that may not name the role of objects.
func (k *link) processRoles(n api.NameSet) (api.Set, error) {
	if slices.Contains(n.Names, api.ObjectRole) || slices.Contains(n.Except, api.ObjectRole) {
		return api.Set{}, k.fail(api.ErrKind)
	}
	s, code := nameset.Listed(n, symbolNames(&k.policy, api.SymRole))
	return bitset.Without(s, objectRole), k.fail(code)
}

func (k *link) roleTrans(s *api.Stmt) error {
	roles, err := k.processRoles(s.Source)
	if err != nil {
		return err
	}
	types, err := k.types(s.Target)
	if err != nil {
		return err
	}
	result, err := k.processRoles(api.NameSet{Names: []string{s.Result}})
	if err != nil {
		return err
	}
	return k.eachClass(s, func(class int) error {
		if isEmpty(roles) || isEmpty(types) {
			return nil
		}
		t := api.RoleTrans{Roles: roles, Types: types, Class: class, Result: bitset.Least(result)}
		return k.fail(add(&k.policy.RoleTrans, t, api.MaxTrans))
	})
}

// eachClass calls a function for each class of a statement, ascending, up to the first failure.
func (k *link) eachClass(s *api.Stmt, do func(class int) error) error {
	classes, code := nameset.Classes(s.Class, k.policy.Classes)
	if code != api.OK {
		return k.fail(code)
	}
	for _, class := range bitset.List(classes) {
		if err := do(class); err != nil {
			return err
		}
	}
	return nil
}

// user gives a user, who was declared without anything, the roles and levels.
func (k *link) user(s *api.Stmt) error {
	n, found := Symbol(k.policy, api.SymUser, s.Name)
	if !found {
		return k.fail(api.ErrNone)
	}
	u := api.User{Name: s.Name}
	var err error
	if u.Roles, err = k.processRoles(api.NameSet{Names: s.List}); err != nil {
		return err
	}
	var code api.Errno
	if u.Default, code = level.Level(s.Level, k.policy.Sens, k.policy.Cats); code != api.OK {
		return k.fail(code)
	}
	if u.Range, code = level.Range(s.Range, k.policy.Sens, k.policy.Cats); code != api.OK {
		return k.fail(code)
	}
	if !containsLevel(u.Range, u.Default) {
		return k.fail(api.ErrLevel)
	}
	k.policy.Users[n] = u
	return nil
}

func (k *link) rule(s *api.Stmt, cond int) error {
	source, target, err := k.sourceAndTarget(s)
	if err != nil {
		return err
	}
	return k.eachClass(s, func(class int) error {
		perms, code := nameset.Perms(s.Perms, k.policy.Classes[class])
		if code != api.OK || isEmpty(source) || isEmpty(target) && !s.Target.Self || perms == 0 {
			return k.fail(code)
		}
		r := api.Rule{Kind: s.Op, Source: source, Target: target, Self: s.Target.Self, Class: class, Perms: perms, Cond: cond}
		return k.fail(add(&k.policy.Rules, r, api.MaxRules))
	})
}

func (k *link) sourceAndTarget(s *api.Stmt) (source, target api.Set, err error) {
	if source, err = k.types(s.Source); err != nil {
		return api.Set{}, api.Set{}, err
	}
	target, err = k.types(s.Target)
	return source, target, err
}

func (k *link) trans(s *api.Stmt, cond int) error {
	source, target, err := k.sourceAndTarget(s)
	if err != nil {
		return err
	}
	result, found := Symbol(k.policy, api.SymType, s.Result)
	if !found {
		return k.fail(api.ErrNone)
	}
	return k.eachClass(s, func(class int) error {
		if isEmpty(source) || isEmpty(target) {
			return nil
		}
		t := api.Trans{Kind: s.Op, Source: source, Target: target, Class: class, Name: s.Text, Result: result, Cond: cond}
		return k.fail(add(&k.policy.Trans, t, api.MaxTrans))
	})
}

func (k *link) rangeTrans(s *api.Stmt) error {
	source, target, err := k.sourceAndTarget(s)
	if err != nil {
		return err
	}
	r, code := level.Range(s.Range, k.policy.Sens, k.policy.Cats)
	if code != api.OK {
		return k.fail(code)
	}
	return k.eachClass(s, func(class int) error {
		if isEmpty(source) || isEmpty(target) {
			return nil
		}
		t := api.RangeTrans{Source: source, Target: target, Class: class, Range: r}
		return k.fail(add(&k.policy.Ranges, t, api.MaxTrans))
	})
}

// validContext returns a context that is valid as far as the link has come: a user has no roles ahead of the user statement.
func (k *link) validContext(c api.ContextText) (api.Context, error) {
	context, code := Context(k.policy, c)
	if code != api.OK {
		return api.Context{}, k.fail(code)
	}
	return context, k.fail(checker{&k.policy}.context(context))
}

func (k *link) initialSid(s *api.Stmt) error {
	context, err := k.validContext(s.Context)
	if err != nil {
		return err
	}
	if slices.ContainsFunc(k.policy.Sids, func(x api.InitialSid) bool { return x.Name == s.Name }) {
		return k.failOf(api.ErrTwice, s.Name)
	}
	return k.fail(add(&k.policy.Sids, api.InitialSid{Name: s.Name, Context: context}, api.MaxSids))
}

func (k *link) fileRule(s *api.Stmt) error {
	context, err := k.validContext(s.Context)
	if err != nil {
		return err
	}
	return k.fail(add(&k.policy.Files, api.FileRule{Pattern: s.Text, Kind: s.Op, Context: context}, api.MaxFiles))
}

func (k *link) permissive(s *api.Stmt) error {
	types, err := k.types(s.Source)
	for _, n := range bitset.List(types) {
		k.policy.Types[n].Permissive = true
	}
	return err
}

func (k *link) assertion(s *api.Stmt) error {
	source, target, err := k.sourceAndTarget(s)
	if err != nil {
		return err
	}
	if slices.ContainsFunc(k.policy.Asserts, func(x api.Assert) bool { return x.Name == s.Name }) {
		return k.failOf(api.ErrTwice, s.Name)
	}
	if isEmpty(source) || isEmpty(target) {
		return nil
	}
	return k.fail(add(&k.policy.Asserts, api.Assert{Name: s.Name, Kind: s.Op, Source: source, Target: target}, api.MaxAsserts))
}
