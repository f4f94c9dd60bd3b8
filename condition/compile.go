package condition

import (
	"accesscontrol/api"
	"accesscontrol/boolexp"
)

// Compile returns the condition of a policy for one of a source.
func Compile(e api.Expr, p api.Policy) (api.Expr, api.Errno) {
	if code := boolexp.Check(e); code != api.OK {
		return api.Expr{}, code
	}
	for _, name := range boolexp.Names(e) {
		if indexOf(&p, name) < 0 {
			return api.Expr{}, api.ErrNone
		}
	}
	return translate(&e, func(name *api.Expr) api.Expr {
		return api.Expr{Op: api.ExprName, A: indexOf(&p, name.Names[0])}
	}), api.OK
}

// Source returns the condition of a source for one of a policy.
func Source(e api.Expr, p api.Policy) api.Expr {
	if !isCondition(&e, &p) {
		return api.Expr{}
	}
	return translate(&e, func(name *api.Expr) api.Expr {
		return api.Expr{Op: api.ExprName, Names: []string{p.Bools[name.A].Name}}
	})
}

// translate returns a condition with another expression in place of each ExprName.
func translate(e *api.Expr, boolean func(*api.Expr) api.Expr) api.Expr {
	if e.Op == api.ExprName {
		return boolean(e)
	}
	t := api.Expr{Op: e.Op}
	for i := range e.Kids {
		t.Kids = append(t.Kids, translate(&e.Kids[i], boolean))
	}
	return t
}
