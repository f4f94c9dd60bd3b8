package modcheck

import (
	"accesscontrol/api"
	"accesscontrol/scope"
)

// typeOrAttribute is the kind of a use of what is a type or an attribute.
const typeOrAttribute = 0

// use is the kind and the name of a symbol that is used.
type use struct {
	kind int
	name string
}

// uses are symbols that are used.
type uses map[use]bool

// add adds what statements use, also within their blocks.
func (u uses) add(l []api.Stmt) {
	for i := range l {
		s := &l[i]
		for _, symbol := range usesOf(s) {
			u[use{symbol.Kind, symbol.Name}] = true
		}
		if s.Kind == api.StmtIf || s.Kind == api.StmtOptional {
			u.add(s.Then)
			u.add(s.Else)
		}
	}
}

// usesOf returns what a statement uses apart from its blocks. It leaves out permissions, because each class would have all of them.
func usesOf(s *api.Stmt) []api.Symbol {
	bare := *s
	bare.Perms = api.NameSet{}
	bare.Then, bare.Else = nil, nil
	return scope.Uses([]api.Stmt{bare})
}

// has reports whether a symbol is used.
func (u uses) has(s api.Symbol) bool {
	isType := s.Kind == api.SymType || s.Kind == api.SymAttribute
	return u[use{s.Kind, s.Name}] || isType && u[use{typeOrAttribute, s.Name}]
}
