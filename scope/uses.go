package scope

import (
	"iter"
	"slices"

	"accesscontrol/api"
)

// used visits what statements use outside of optional blocks, as often as they use it.
func used(l []api.Stmt) iter.Seq[api.Symbol] {
	return func(yield func(api.Symbol) bool) { visitUses(l, yield) }
}

// visitUses reports whether yield asked for more up to the end.
func visitUses(l []api.Stmt, yield func(api.Symbol) bool) bool {
	for i := range l {
		s := &l[i]
		for _, use := range usesOf(s) {
			if !yield(use) {
				return false
			}
		}
		if s.Kind == api.StmtIf && !(visitUses(s.Then, yield) && visitUses(s.Else, yield)) {
			return false
		}
	}
	return true
}

// usesOf returns what a statement uses, without the statements in its blocks.
func usesOf(s *api.Stmt) []api.Symbol {
	u := uses{pos: s.Pos}
	switch s.Kind {
	case api.StmtType:
		u.names(api.SymAttribute, s.List)
	case api.StmtMember:
		u.add(api.SymType, s.Name, nil)
		u.names(api.SymAttribute, s.List)
	case api.StmtRole, api.StmtPermissive:
		u.set(anyType, s.Source)
	case api.StmtRoleAllow:
		u.set(api.SymRole, s.Source)
		u.set(api.SymRole, s.Target)
	case api.StmtRoleTrans:
		u.set(api.SymRole, s.Source)
		u.set(anyType, s.Target)
		u.set(api.SymClass, s.Class)
		u.add(api.SymRole, s.Result, nil)
	case api.StmtUser:
		u.names(api.SymRole, s.List)
		u.level(s.Level)
		u.levels(s.Range)
	case api.StmtSid, api.StmtFile:
		u.context(s.Context)
	case api.StmtConstrain:
		u.classes(s.Class, s.Perms)
		u.condition(&s.Cond)
	case api.StmtValidate:
		u.set(api.SymClass, s.Class)
		u.condition(&s.Cond)
	case api.StmtIf:
		u.condition(&s.Cond)
	case api.StmtRule, api.StmtTrans, api.StmtRangeTrans, api.StmtAssert:
		u.types(s)
	}
	return u.list
}

// uses gathers what one statement uses.
type uses struct {
	pos  api.Pos
	list []api.Symbol
}

func (u *uses) add(kind int, name string, perms []string) {
	use := api.Symbol{Kind: kind, Name: name, Perms: perms, Pos: u.pos}
	if name != "" && !isObjectRole(use) {
		u.list = append(u.list, use)
	}
}

func (u *uses) names(kind int, l []string) {
	for _, name := range l {
		u.add(kind, name, nil)
	}
}

func (u *uses) set(kind int, n api.NameSet) {
	u.names(kind, n.Names)
	u.names(kind, n.Except)
}

// classes adds classes that are used with permissions.
func (u *uses) classes(n, perms api.NameSet) {
	with := slices.DeleteFunc(slices.Concat(perms.Names, perms.Except), func(name string) bool { return name == "" })
	for _, name := range n.Names {
		u.add(api.SymClass, name, with)
	}
	u.names(api.SymClass, n.Except)
}

// types adds what a statement uses that has sets of types as its Source and Target.
func (u *uses) types(s *api.Stmt) {
	u.set(anyType, s.Source)
	u.set(anyType, s.Target)
	switch s.Kind {
	case api.StmtRule:
		u.classes(s.Class, s.Perms)
	case api.StmtTrans:
		u.set(api.SymClass, s.Class)
		u.add(api.SymType, s.Result, nil)
	case api.StmtRangeTrans:
		u.set(api.SymClass, s.Class)
		u.levels(s.Range)
	}
}

func (u *uses) level(l api.LevelText) {
	u.add(api.SymSensitivity, l.Sens, nil)
	for _, span := range l.Cats {
		u.add(api.SymCategory, span.From, nil)
		u.add(api.SymCategory, span.To, nil)
	}
}

func (u *uses) levels(r api.RangeText) {
	u.level(r.Low)
	u.level(r.High)
}

func (u *uses) context(c api.ContextText) {
	u.add(api.SymUser, c.User, nil)
	u.add(api.SymRole, c.Role, nil)
	u.add(api.SymType, c.Type, nil)
	u.levels(c.Range)
}

// condition adds the names in an expression: booleans, and what attributes of contexts are compared with.
func (u *uses) condition(e *api.Expr) {
	switch {
	case e.Op == api.ExprName:
		u.names(api.SymBool, e.Names)
	case e.Op == api.ExprIn && e.A >= 0:
		switch e.A % api.AttrsOfContext {
		case api.AttrUser:
			u.names(api.SymUser, e.Names)
		case api.AttrRole:
			u.names(api.SymRole, e.Names)
		case api.AttrType:
			u.names(anyType, e.Names)
		}
	}
	for i := range e.Kids {
		u.condition(&e.Kids[i])
	}
}
