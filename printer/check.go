package printer

import (
	"accesscontrol/api"
	"accesscontrol/boolexp"
	"accesscontrol/grammar"
	"accesscontrol/token"
)

// The fields of statements.
const (
	hasOp = 1 << iota
	hasName
	hasResult
	hasText
	hasList
	hasAliases
	hasSource
	hasTarget
	hasClass
	hasPerms
	hasCond
	hasLevel
	hasRange
	hasContext
	hasValue
	hasThen
	hasElse
)

// fieldsOf returns the fields that a statement of this kind has; a kind that does not exist has none.
func fieldsOf(s *api.Stmt) int {
	switch s.Kind {
	case api.StmtAttribute, api.StmtSensitivity, api.StmtCategory:
		return hasName
	case api.StmtClass, api.StmtMember:
		return hasName | hasList
	case api.StmtType:
		return hasName | hasAliases | hasList
	case api.StmtRole:
		return hasName | hasSource
	case api.StmtRoleAllow:
		return hasSource | hasTarget
	case api.StmtRoleTrans:
		return hasSource | hasTarget | hasClass | hasResult
	case api.StmtUser:
		return hasName | hasList | hasLevel | hasRange
	case api.StmtBool:
		return hasName | hasValue
	case api.StmtRule:
		return hasOp | hasSource | hasTarget | hasClass | hasPerms
	case api.StmtTrans:
		return hasOp | hasSource | hasTarget | hasClass | hasResult | hasText
	case api.StmtRangeTrans:
		return hasSource | hasTarget | hasClass | hasRange
	case api.StmtConstrain:
		return hasClass | hasPerms | hasCond
	case api.StmtValidate:
		return hasClass | hasCond
	case api.StmtIf:
		return hasCond | hasThen | hasElse
	case api.StmtOptional:
		return hasThen | hasElse
	case api.StmtRequire:
		if s.Op == api.SymClass {
			return hasOp | hasName | hasList
		}
		return hasOp | hasList
	case api.StmtSid:
		return hasName | hasContext
	case api.StmtFile:
		return hasText | hasOp | hasContext
	case api.StmtPermissive:
		return hasSource
	case api.StmtAssert:
		return hasName | hasOp | hasSource | hasTarget
	}
	return 0
}

// value tells of the value of a field whether it is zero, and whether it is well-formed.
type value struct {
	field        int
	zero, proper bool
}

func valuesOf(s *api.Stmt) []value {
	noSource, noTarget := sameSet(s.Source, api.NameSet{}), sameSet(s.Target, api.NameSet{})
	return []value{
		{hasOp, s.Op == 0, isOp(s)},
		{hasName, s.Name == "", token.Identifier(s.Name)},
		{hasResult, s.Result == "", token.Identifier(s.Result)},
		{hasText, s.Text == "", isText(s)},
		{hasList, len(s.List) == 0, areIdentifiers(s.List) && (len(s.List) > 0 || s.Kind == api.StmtType)},
		{hasAliases, len(s.Aliases) == 0, areIdentifiers(s.Aliases)},
		{hasSource, noSource, isSet(s.Source) || noSource && s.Kind == api.StmtRole},
		{hasTarget, noTarget, isSet(s.Target) || isTarget(s.Target) && s.Kind == api.StmtRule},
		{hasClass, sameSet(s.Class, api.NameSet{}), isSet(s.Class)},
		{hasPerms, sameSet(s.Perms, api.NameSet{}), isSet(s.Perms)},
		{hasCond, boolexp.Same(s.Cond, api.Expr{}), isCond(s)},
		{hasLevel, sameLevel(s.Level, api.LevelText{}), isLevel(s.Level)},
		{hasRange, sameRange(s.Range, api.RangeText{}), isRange(s.Range)},
		{hasContext, sameContext(s.Context, api.ContextText{}), isContext(s.Context)},
		{hasValue, !s.Value, true},
		{hasThen, len(s.Then) == 0, len(s.Then) > 0 && allWellFormed(s.Then)},
		{hasElse, len(s.Else) == 0, allWellFormed(s.Else)},
	}
}

// wellFormed reports whether a statement is well-formed. Its blocks have at most MaxNest levels.
func wellFormed(s *api.Stmt) bool {
	fields := fieldsOf(s)
	for _, v := range valuesOf(s) {
		has := fields&v.field != 0
		if has && !v.proper || !has && !v.zero {
			return false
		}
	}
	return fields != 0
}

func allWellFormed(l []api.Stmt) bool {
	for i := range l {
		if !wellFormed(&l[i]) {
			return false
		}
	}
	return true
}

// sortOf returns the sort of the words for the Op of a statement.
func sortOf(s *api.Stmt) grammar.Sort {
	switch s.Kind {
	case api.StmtRule:
		return grammar.Rules
	case api.StmtTrans:
		return grammar.Transitions
	case api.StmtRequire:
		return grammar.Symbols
	case api.StmtFile:
		return grammar.Files
	}
	return grammar.Asserts
}

func isOp(s *api.Stmt) bool {
	return grammar.Word(sortOf(s), s.Op) != ""
}

// isText reports whether the Text of a transition or of a file context rule is well-formed.
func isText(s *api.Stmt) bool {
	if s.Kind == api.StmtTrans {
		return s.Text == "" || s.Op == api.TransCreate && grammar.ObjectName(s.Text)
	}
	return s.Text != "" && token.Check(api.Token{Kind: api.TokString, Text: s.Text})
}

func isCond(s *api.Stmt) bool {
	if s.Kind == api.StmtIf {
		return boolexp.Check(s.Cond) == api.OK
	}
	return isConstraint(s.Cond, s.Kind == api.StmtValidate)
}

func areIdentifiers(l []string) bool {
	for _, s := range l {
		if !token.Identifier(s) {
			return false
		}
	}
	return true
}

func isList(l []string) bool {
	return len(l) > 0 && areIdentifiers(l)
}

// isSet reports whether a set of names in which self may not stand is well-formed.
func isSet(n api.NameSet) bool {
	return !n.Self && isTarget(n)
}

// isTarget reports whether a set of names in which self may stand is well-formed.
func isTarget(n api.NameSet) bool {
	return (n.All || n.Self || len(n.Names)+len(n.Except) > 0) && areIdentifiers(n.Names) && areIdentifiers(n.Except)
}

func isLevel(l api.LevelText) bool {
	for _, s := range l.Cats {
		if !token.Identifier(s.From) || s.To != "" && !token.Identifier(s.To) {
			return false
		}
	}
	return token.Identifier(l.Sens)
}

func isRange(r api.RangeText) bool {
	return isLevel(r.Low) && (!hasHigh(r) || isLevel(r.High))
}

// hasHigh reports whether a range has two levels.
func hasHigh(r api.RangeText) bool {
	return !sameLevel(r.High, api.LevelText{})
}

func isContext(c api.ContextText) bool {
	return token.Identifier(c.User) && token.Identifier(c.Role) && token.Identifier(c.Type) && isRange(c.Range)
}

// isConstraint reports whether the expression of a constraint is well-formed; validate permits a third context.
func isConstraint(e api.Expr, validate bool) bool {
	contexts := 2
	if validate {
		contexts = 3
	}
	return isNode(e, contexts*api.AttrsOfContext, 1)
}

// isNode reports whether an expression at a level of a constraint is well-formed, for so many attributes.
func isNode(e api.Expr, attributes, level int) bool {
	kids := e.Kids
	e.Kids = nil
	if level > api.MaxNest || !isBare(e, attributes, len(kids)) {
		return false
	}
	for _, kid := range kids {
		if !isNode(kid, attributes, level+1) {
			return false
		}
	}
	return true
}

// isBare reports whether an expression is well-formed apart from its kids, of which there are so many.
func isBare(e api.Expr, attributes, kids int) bool {
	isAttribute := func(a int) bool { return 0 <= a && a < attributes }
	switch e.Op {
	case api.ExprNot:
		return kids == 1 && boolexp.Same(e, api.Expr{Op: e.Op})
	case api.ExprAnd, api.ExprOr:
		return kids == 2 && boolexp.Same(e, api.Expr{Op: e.Op})
	case api.ExprCompare:
		return kids == 0 && boolexp.Same(e, api.Expr{Op: e.Op, A: e.A, Rel: e.Rel, B: e.B}) && isAttribute(e.A) && isAttribute(e.B) && grammar.Word(grammar.Relations, e.Rel) != ""
	case api.ExprIn:
		return kids == 0 && boolexp.Same(e, api.Expr{Op: e.Op, A: e.A, Names: e.Names}) && isAttribute(e.A) && isList(e.Names)
	}
	return false
}
