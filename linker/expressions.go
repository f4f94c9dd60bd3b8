package linker

import (
	"slices"

	"accesscontrol/api"
	"accesscontrol/expression"
	"accesscontrol/nameset"
)

// blocks adds the condition of an if statement, and what stands in its blocks.
func (k *link) blocks(s *api.Stmt) error {
	cond, err := k.condition(&s.Cond)
	if err != nil {
		return err
	}
	if err := k.visit(s.Then, func(inner *api.Stmt) error { return k.conditional(inner, cond) }); err != nil {
		return err
	}
	return k.visit(s.Else, func(inner *api.Stmt) error { return k.conditional(inner, -cond) })
}

// condition returns the Cond of what is active if a condition is true. The condition is added, unless there is one of its structure.
func (k *link) condition(e *api.Expr) (int, error) {
	c, err := k.numbered(e)
	if err != nil {
		return 0, err
	}
	n := slices.IndexFunc(k.policy.Conds, func(before api.Expr) bool { return same(&before, &c) })
	if n < 0 {
		n = len(k.policy.Conds)
		err = k.fail(add(&k.policy.Conds, c, api.MaxConds))
	}
	return n + 1, err
}

// numbered returns a condition with the numbers of its booleans in place of their names.
func (k *link) numbered(e *api.Expr) (api.Expr, error) {
	c := api.Expr{Op: e.Op}
	for _, name := range e.Names {
		n, found := Symbol(k.policy, api.SymBool, name)
		if !found {
			return api.Expr{}, k.fail(api.ErrNone)
		}
		c.A = n
	}
	for i := range e.Kids {
		kid, err := k.numbered(&e.Kids[i])
		if err != nil {
			return api.Expr{}, err
		}
		c.Kids = append(c.Kids, kid)
	}
	return c, nil
}

// same reports whether two conditions of the policy have the same structure.
func same(a, b *api.Expr) bool {
	return a.Op == b.Op && a.A == b.A && slices.EqualFunc(a.Kids, b.Kids, func(x, y api.Expr) bool { return same(&x, &y) })
}

// constraint adds a constraint for each class.
func (k *link) constraint(s *api.Stmt) error {
	if expression.TooDeep(&s.Cond) {
		return k.fail(api.ErrLong)
	}
	e, err := k.members(&s.Cond)
	if err != nil {
		return err
	}
	validate := s.Kind == api.StmtValidate
	if code := expression.Constraint(&e, &k.policy, validate); code != api.OK {
		return k.fail(code)
	}
	return k.eachClass(s, func(class int) error {
		c := api.Constraint{Class: class, Validate: validate, Expr: clone(&e)}
		if !validate {
			var code api.Errno
			if c.Perms, code = nameset.Perms(s.Perms, k.policy.Classes[class]); code != api.OK || c.Perms == 0 {
				return k.fail(code)
			}
		}
		return k.fail(add(&k.policy.Constraints, c, api.MaxConstraints))
	})
}

// members returns the expression of a constraint with numbers in place of names.
func (k *link) members(e *api.Expr) (api.Expr, error) {
	c := api.Expr{Op: e.Op, A: e.A, Rel: e.Rel, B: e.B}
	if e.Op == api.ExprIn {
		s, code := k.named(e)
		if code != api.OK {
			return api.Expr{}, k.fail(code)
		}
		c.Set = s
		if isEmpty(s) && expression.SortOf(e.A) == api.AttrType {
			c = api.Expr{Op: api.ExprCompare, A: e.A, Rel: api.RelDiffer, B: e.A}
		}
	}
	for i := range e.Kids {
		kid, err := k.members(&e.Kids[i])
		if err != nil {
			return api.Expr{}, err
		}
		c.Kids = append(c.Kids, kid)
	}
	return c, nil
}

// named returns the numbers of what an attribute is compared with. The names of levels mean nothing: they are an error of the expression.
func (k *link) named(e *api.Expr) (api.Set, api.Errno) {
	n := api.NameSet{Names: e.Names}
	switch expression.SortOf(e.A) {
	case api.AttrUser:
		return nameset.Listed(n, symbolNames(&k.policy, api.SymUser))
	case api.AttrRole:
		return nameset.Listed(n, symbolNames(&k.policy, api.SymRole))
	case api.AttrType:
		return nameset.Types(n, k.env())
	}
	return api.Set{}, api.OK
}

// clone returns an expression of a policy in memory of its own.
func clone(e *api.Expr) api.Expr {
	c := *e
	c.Kids = nil
	for i := range e.Kids {
		c.Kids = append(c.Kids, clone(&e.Kids[i]))
	}
	return c
}
