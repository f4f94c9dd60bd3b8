package conflict

import (
	"accesscontrol/api"
	"accesscontrol/scope"
)

// The sorts of things. The name of a module is a thing, too, and stands ahead of the others.
const (
	sortName = iota
	sortSymbol
	sortSid
	sortAssert
)

// thing is a thing of a module. What is no symbol has the name and the position of one.
type thing struct {
	module, sort int
	symbol       api.Symbol
}

// meeting is what things have in common that meet. Symbols have the kind that stands for their name space.
type meeting struct {
	sort, kind int
	name       string
}

func (t thing) meeting() meeting {
	kind := t.symbol.Kind
	if kind == api.SymAttribute {
		kind = api.SymType
	}
	return meeting{t.sort, kind, t.symbol.Name}
}

// thingsOf returns the things of modules, in order.
func thingsOf(l []api.Module) []thing {
	var things []thing
	for i, m := range l {
		things = append(things, thing{i, sortName, api.Symbol{Name: m.Name}})
		symbols, _ := scope.Symbols(m)
		for _, s := range symbols {
			things = append(things, thing{i, sortSymbol, s})
		}
		for j := range m.Stmts {
			s := &m.Stmts[j]
			switch s.Kind {
			case api.StmtSid:
				things = append(things, thing{i, sortSid, api.Symbol{Name: s.Name, Pos: s.Pos}})
			case api.StmtAssert:
				things = append(things, thing{i, sortAssert, api.Symbol{Name: s.Name, Pos: s.Pos}})
			}
		}
	}
	return things
}

// clash reports whether two things that meet are a conflict of two modules.
func clash(a, b thing) bool {
	return a.module != b.module && contradiction(a, b) != api.OK
}

// contradiction returns the error of two things that meet. Only symbols can be required.
func contradiction(a, b thing) api.Errno {
	both := []api.Symbol{a.symbol, b.symbol}
	switch {
	case a.symbol.Kind != b.symbol.Kind:
		return api.ErrKind
	case !a.symbol.Required && !b.symbol.Required:
		return api.ErrTwice
	case a.symbol.Kind == api.SymClass && a.symbol.Required != b.symbol.Required && len(scope.Missing(both, both)) > 0:
		return api.ErrPerm
	}
	return api.OK
}
