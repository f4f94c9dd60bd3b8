package constraint

import (
	"accesscontrol/api"
	"accesscontrol/bitset"
	"accesscontrol/expression"
	"accesscontrol/level"
)

// isWellFormed reports whether an expression has a value, in some policy and for changes of contexts, too.
func isWellFormed(e *api.Expr) bool {
	attributes := expression.Attributes(true)
	return expression.Check(e, func(node *api.Expr) api.Errno { return expression.Operator(node, attributes) }) == api.OK
}

// value returns the value of a well-formed expression.
func value(e *api.Expr, c *api.Case) bool {
	switch e.Op {
	case api.ExprNot:
		return !value(&e.Kids[0], c)
	case api.ExprAnd:
		return value(&e.Kids[0], c) && value(&e.Kids[1], c)
	case api.ExprOr:
		return value(&e.Kids[0], c) || value(&e.Kids[1], c)
	case api.ExprIn:
		return bitset.Has(e.Set, read(c, e.A).Sens)
	}
	return related(read(c, e.A), e.Rel, read(c, e.B))
}

// related reports whether a is in a relation to b.
func related(a api.Level, relation int, b api.Level) bool {
	switch relation {
	case api.RelSame:
		return a == b
	case api.RelDiffer:
		return a != b
	case api.RelDominates:
		return level.Dominates(a, b)
	case api.RelDominatedBy:
		return level.Dominates(b, a)
	}
	return level.Relation(a, b) == api.RelIncomparable
}

// read returns what an attribute is in the contexts of a case.
func read(c *api.Case, n int) api.Level {
	contexts := [...]api.Context{c.First, c.Second, c.Third}
	return attributeOf(n).read(contexts[n/api.AttrsOfContext])
}

// attribute reads an attribute of a context. A user, a role or a type is read as the level that has its number as Sens, and no categories, so that all attributes are compared alike.
type attribute interface {
	read(c api.Context) api.Level
}

type (
	user      struct{}
	role      struct{}
	typeOf    struct{}
	lowLevel  struct{}
	highLevel struct{}
)

func (user) read(c api.Context) api.Level      { return api.Level{Sens: c.User} }
func (role) read(c api.Context) api.Level      { return api.Level{Sens: c.Role} }
func (typeOf) read(c api.Context) api.Level    { return api.Level{Sens: c.Type} }
func (lowLevel) read(c api.Context) api.Level  { return c.Range.Low }
func (highLevel) read(c api.Context) api.Level { return c.Range.High }

func attributeOf(n int) attribute {
	switch n % api.AttrsOfContext {
	case api.AttrUser:
		return user{}
	case api.AttrRole:
		return role{}
	case api.AttrType:
		return typeOf{}
	case api.AttrLow:
		return lowLevel{}
	}
	return highLevel{}
}
