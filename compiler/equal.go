package compiler

import (
	"slices"

	"accesscontrol/api"
)

// Equal reports whether two policies are equal in everything, with the same numbers.
func Equal(a, b api.Policy) bool {
	return sameSymbols(&a, &b) && sameRules(&a, &b) &&
		slices.Equal(a.Sids, b.Sids) &&
		slices.Equal(a.Files, b.Files) &&
		slices.Equal(a.Asserts, b.Asserts)
}

func sameSymbols(a, b *api.Policy) bool {
	return slices.EqualFunc(a.Classes, b.Classes, sameClass) &&
		slices.EqualFunc(a.Types, b.Types, sameType) &&
		slices.Equal(a.Attrs, b.Attrs) &&
		slices.Equal(a.Roles, b.Roles) &&
		slices.Equal(a.Users, b.Users) &&
		slices.Equal(a.Bools, b.Bools) &&
		slices.Equal(a.Sens, b.Sens) &&
		slices.Equal(a.Cats, b.Cats)
}

func sameRules(a, b *api.Policy) bool {
	return slices.EqualFunc(a.Conds, b.Conds, sameExpr) &&
		slices.Equal(a.Rules, b.Rules) &&
		slices.Equal(a.Trans, b.Trans) &&
		slices.Equal(a.RoleTrans, b.RoleTrans) &&
		slices.Equal(a.Ranges, b.Ranges) &&
		slices.EqualFunc(a.Constraints, b.Constraints, sameConstraint)
}

func sameClass(a, b api.Class) bool {
	return a.Name == b.Name && slices.Equal(a.Perms, b.Perms)
}

func sameType(a, b api.Type) bool {
	return a.Name == b.Name && slices.Equal(a.Aliases, b.Aliases) && a.Permissive == b.Permissive
}

func sameConstraint(a, b api.Constraint) bool {
	return a.Class == b.Class && a.Perms == b.Perms && a.Validate == b.Validate && sameExpr(a.Expr, b.Expr)
}

func sameExpr(a, b api.Expr) bool {
	return a.Op == b.Op && a.A == b.A && a.Rel == b.Rel && a.B == b.B && a.Set == b.Set &&
		slices.Equal(a.Names, b.Names) && slices.EqualFunc(a.Kids, b.Kids, sameExpr)
}
