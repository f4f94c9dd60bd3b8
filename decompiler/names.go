package decompiler

import (
	"accesscontrol/api"
	"accesscontrol/condition"
	"accesscontrol/constraint"
	"accesscontrol/level"
	"accesscontrol/nameset"
	"accesscontrol/printer"
)

// decompiler writes what a policy has with its names. In a policy that is not valid, a number may have no name; then the name is empty.
type decompiler struct {
	policy    *api.Policy
	roleNames []api.Type // the names of the roles, as nameset writes those of types
}

func newDecompiler(p *api.Policy) decompiler {
	d := decompiler{policy: p}
	for _, r := range p.Roles {
		d.roleNames = append(d.roleNames, api.Type{Name: r.Name})
	}
	return d
}

// has reports whether a list has an element with a number.
func has[E any](l []E, n int) bool { return 0 <= n && n < len(l) }

// at returns the element with a number, or the zero value if there is none.
func at[E any](l []E, n int) E {
	if !has(l, n) {
		var none E
		return none
	}
	return l[n]
}

// alone returns the set of names with one name.
func alone(name string) api.NameSet { return api.NameSet{Names: []string{name}} }

func (d decompiler) typeName(n int) string { return at(d.policy.Types, n).Name }

func (d decompiler) roleName(n int) string { return at(d.policy.Roles, n).Name }

func (d decompiler) types(s api.Set) api.NameSet { return nameset.Names(s, d.policy.Types) }

func (d decompiler) roles(s api.Set) api.NameSet { return nameset.Names(s, d.roleNames) }

func (d decompiler) class(n int) api.NameSet { return alone(at(d.policy.Classes, n).Name) }

func (d decompiler) perms(class int, v uint32) api.NameSet {
	return api.NameSet{Names: nameset.Vector(v, at(d.policy.Classes, class))}
}

func (d decompiler) level(l api.Level) api.LevelText {
	return d.levels(api.Range{Low: l, High: l}).Low
}

func (d decompiler) levels(r api.Range) api.RangeText {
	t, _ := level.Source(r, d.policy.Sens, d.policy.Cats)
	return t
}

func (d decompiler) context(c api.Context) api.ContextText {
	t, _ := Context(*d.policy, c)
	return t
}

func (d decompiler) condition(n int) api.Expr {
	return condition.Source(at(d.policy.Conds, n), *d.policy)
}

func (d decompiler) expression(e api.Expr) api.Expr {
	return constraint.Source(e, *d.policy)
}

// repeatsCondition reports whether two conditions are equal: linking would make one of them.
func (d decompiler) repeatsCondition() bool {
	var l []api.Stmt
	for n := range min(len(d.policy.Conds), api.MaxConds) { // a valid policy has no more
		s := []api.Stmt{{Cond: d.condition(n)}}
		for i := range l {
			if printer.SameStatements(l[i:i+1], s) {
				return true
			}
		}
		l = append(l, s...)
	}
	return false
}
