package scope

import (
	"iter"

	"accesscontrol/api"
)

// anyType is the kind of a use of a type or an attribute. No symbol is declared or required with it.
const anyType = 0

// key tells symbols apart. What is declared and required is two of them.
type key struct {
	kind     int
	name     string
	required bool
}

func keyOf(s api.Symbol) key { return key{s.Kind, s.Name, s.Required} }

// permission is a permission of a symbol.
type permission struct {
	of   key
	name string
}

// table has symbols, each once, in the order in which they were added.
type table struct {
	symbols []api.Symbol
	places  map[key]int // in symbols
	perms   map[permission]bool
}

func newTable() *table {
	return &table{places: map[key]int{}, perms: map[permission]bool{}}
}

func (t *table) has(k key) bool {
	_, found := t.places[k]
	return found
}

// add adds a symbol. If it is there already, only its permissions are added.
func (t *table) add(s api.Symbol) {
	k := keyOf(s)
	place, found := t.places[k]
	if !found {
		place = len(t.symbols)
		t.places[k] = place
		t.symbols = append(t.symbols, api.Symbol{Kind: s.Kind, Name: s.Name, Required: s.Required, Pos: s.Pos})
	}
	for _, name := range s.Perms {
		if p := (permission{k, name}); !t.perms[p] {
			t.perms[p] = true
			t.symbols[place].Perms = append(t.symbols[place].Perms, name)
		}
	}
}

func isObjectRole(s api.Symbol) bool {
	return s.Kind == api.SymRole && s.Name == api.ObjectRole
}

// rival returns the other kind of the name space of a kind; anyType if there is none.
func rival(kind int) int {
	switch kind {
	case api.SymType:
		return api.SymAttribute
	case api.SymAttribute:
		return api.SymType
	}
	return anyType
}

// clash returns the fault of a symbol that is written behind others; has tells which these are.
func clash(s api.Symbol, has func(key) bool) api.Fault {
	f := api.Fault{Pos: s.Pos, Name: s.Name}
	other := rival(s.Kind)
	switch {
	case has(key{other, s.Name, false}) || has(key{other, s.Name, true}):
		f.Code = api.ErrKind
	case !s.Required && (isObjectRole(s) || has(keyOf(s))):
		f.Code = api.ErrTwice
	default:
		return api.Fault{}
	}
	return f
}

// written visits what statements declare and require, as often as it is written.
func written(l []api.Stmt) iter.Seq[api.Symbol] {
	return func(yield func(api.Symbol) bool) {
		for i := range l {
			for _, s := range writtenBy(&l[i]) {
				if !yield(s) {
					return
				}
			}
		}
	}
}

// writtenBy returns what a statement declares or requires.
func writtenBy(s *api.Stmt) []api.Symbol {
	switch s.Kind {
	case api.StmtClass:
		return []api.Symbol{{Kind: api.SymClass, Name: s.Name, Perms: s.List, Pos: s.Pos}}
	case api.StmtType:
		l := []api.Symbol{{Kind: api.SymType, Name: s.Name, Pos: s.Pos}}
		for _, name := range s.Aliases {
			l = append(l, api.Symbol{Kind: api.SymType, Name: name, Pos: s.Pos})
		}
		return l
	case api.StmtRequire:
		return requiredBy(s)
	}
	if kind := declares(s.Kind); kind != 0 {
		return []api.Symbol{{Kind: kind, Name: s.Name, Pos: s.Pos}}
	}
	return nil
}

// requiredBy returns what a require statement names.
func requiredBy(s *api.Stmt) []api.Symbol {
	if s.Op == api.SymClass {
		return []api.Symbol{{Kind: api.SymClass, Name: s.Name, Required: true, Perms: s.List, Pos: s.Pos}}
	}
	if s.Op < api.SymClass || s.Op > api.SymCategory {
		return nil
	}
	var l []api.Symbol
	for _, name := range s.List {
		l = append(l, api.Symbol{Kind: s.Op, Name: name, Required: true, Pos: s.Pos})
	}
	return l
}

// declares returns the kind of the symbol that a kind of statement declares, if it declares one by its name alone; otherwise 0.
func declares(kind int) int {
	switch kind {
	case api.StmtAttribute:
		return api.SymAttribute
	case api.StmtRole:
		return api.SymRole
	case api.StmtUser:
		return api.SymUser
	case api.StmtBool:
		return api.SymBool
	case api.StmtSensitivity:
		return api.SymSensitivity
	case api.StmtCategory:
		return api.SymCategory
	}
	return 0
}
