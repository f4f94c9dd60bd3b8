package linker

import (
	"cmp"
	"slices"

	"accesscontrol/api"
	"accesscontrol/scope"
)

// declare is the step that numbers the symbols.
func (k *link) declare(m *api.Module) error {
	symbols, _ := scope.Symbols(*m)
	k.declared = append(k.declared, symbols...)
	return k.visit(m.Stmts, k.declaration)
}

// declaration adds what a statement declares. A name that exists is found ahead of a table that is full.
func (k *link) declaration(s *api.Stmt) error {
	kind := declares(s.Kind)
	if kind == 0 {
		return nil
	}
	for _, name := range slices.Concat([]string{s.Name}, s.Aliases) {
		if code := k.spaces[kind].add(name); code != api.OK {
			return k.failOf(code, name)
		}
	}
	return k.failOf(k.policyAdd(kind, s), s.Name)
}

// policyAdd adds the symbol of a declaration to its list.
func (k *link) policyAdd(kind int, s *api.Stmt) api.Errno {
	p := &k.policy
	switch kind {
	case api.SymClass:
		return cmp.Or(add(&p.Classes, api.Class{Name: s.Name, Perms: slices.Clone(s.List)}, api.MaxClasses), permsError(s.List))
	case api.SymType:
		return add(&p.Types, api.Type{Name: s.Name, Aliases: slices.Clone(s.Aliases)}, api.MaxTypes)
	case api.SymAttribute:
		return add(&p.Attrs, api.Attr{Name: s.Name}, api.MaxAttrs)
	case api.SymRole:
		return add(&p.Roles, api.Role{Name: s.Name}, api.MaxRoles)
	case api.SymUser:
		return add(&p.Users, api.User{Name: s.Name}, api.MaxUsers)
	case api.SymBool:
		return add(&p.Bools, api.Bool{Name: s.Name, Value: s.Value}, api.MaxBools)
	case api.SymSensitivity:
		return add(&p.Sens, s.Name, api.MaxSens)
	}
	return add(&p.Cats, s.Name, api.MaxCats)
}

// add appends to a list; ErrLong if it is as long as its limit.
func add[T any](l *[]T, x T, limit int) api.Errno {
	if len(*l) >= limit {
		return api.ErrLong
	}
	*l = append(*l, x)
	return api.OK
}

// declares returns the kind of the symbol that a kind of statement declares, 0 if it declares none.
func declares(kind int) int {
	switch kind {
	case api.StmtClass:
		return api.SymClass
	case api.StmtType:
		return api.SymType
	case api.StmtAttribute:
		return api.SymAttribute
	case api.StmtRole:
		return api.SymRole
	case api.StmtUser:
		return api.SymUser
	case api.StmtBool:
		return api.SymBool
	case api.StmtSensitivity:
		return api.SymSensitivity
	case api.StmtCategory:
		return api.SymCategory
	}
	return 0
}
