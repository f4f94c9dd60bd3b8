package scope_test

import (
	"slices"

	"accesscontrol/api"
	"accesscontrol/scope"
)

// The model follows the words of the chapter with lists alone.

// spaceOf returns the name space of a kind of symbols or of uses.
func spaceOf(kind int) int {
	if kind == 0 || kind == api.SymAttribute {
		return api.SymType
	}
	return kind
}

// namesOf returns what a statement declares or requires.
func namesOf(s api.Stmt) []api.Symbol {
	declaring := map[int]int{api.StmtClass: api.SymClass, api.StmtType: api.SymType, api.StmtAttribute: api.SymAttribute, api.StmtRole: api.SymRole, api.StmtUser: api.SymUser, api.StmtBool: api.SymBool, api.StmtSensitivity: api.SymSensitivity, api.StmtCategory: api.SymCategory}
	kind, names := declaring[s.Kind], []string{s.Name}
	switch {
	case s.Kind == api.StmtType:
		names = append(names, s.Aliases...)
	case s.Kind == api.StmtRequire && s.Op >= api.SymClass && s.Op <= api.SymCategory:
		kind = s.Op
		if kind != api.SymClass {
			names = s.List
		}
	}
	var l []api.Symbol
	for _, name := range names {
		symbol := api.Symbol{Kind: kind, Name: name, Required: s.Kind == api.StmtRequire, Pos: s.Pos}
		if kind == api.SymClass {
			symbol.Perms = s.List
		}
		if kind != 0 {
			l = append(l, symbol)
		}
	}
	return l
}

// faultBehind returns the fault that a symbol has behind others.
func faultBehind(s api.Symbol, others []api.Symbol) api.Fault {
	twice := !s.Required && s.Kind == api.SymRole && s.Name == "object_r"
	for _, o := range others {
		if spaceOf(o.Kind) != spaceOf(s.Kind) || o.Name != s.Name {
			continue
		}
		if o.Kind != s.Kind {
			return api.Fault{Code: api.ErrKind, Pos: s.Pos, Name: s.Name}
		}
		twice = twice || !s.Required && !o.Required
	}
	if twice {
		return api.Fault{Code: api.ErrTwice, Pos: s.Pos, Name: s.Name}
	}
	return api.Fault{}
}

// joined returns symbols, each once, with all permissions that it has anywhere.
func joined(l []api.Symbol) []api.Symbol {
	var result []api.Symbol
	for _, s := range l {
		i := slices.IndexFunc(result, func(r api.Symbol) bool {
			return r.Kind == s.Kind && r.Name == s.Name && r.Required == s.Required
		})
		if i < 0 {
			i = len(result)
			result = append(result, api.Symbol{Kind: s.Kind, Name: s.Name, Required: s.Required, Pos: s.Pos})
		}
		for _, p := range s.Perms {
			if !slices.Contains(result[i].Perms, p) {
				result[i].Perms = append(result[i].Perms, p)
			}
		}
	}
	return result
}

// modelBlock says what Block returns.
func modelBlock(l []api.Stmt) ([]api.Symbol, api.Fault) {
	var all []api.Symbol
	for _, s := range l {
		for _, symbol := range namesOf(s) {
			if f := faultBehind(symbol, all); f.Code != api.OK {
				return nil, f
			}
			all = append(all, symbol)
		}
	}
	var result []api.Symbol
	for _, s := range joined(all) {
		declared := slices.ContainsFunc(all, func(o api.Symbol) bool { return o.Kind == s.Kind && o.Name == s.Name && !o.Required })
		if !s.Required || !declared && (s.Kind != api.SymRole || s.Name != "object_r") {
			result = append(result, s)
		}
	}
	return result, api.Fault{}
}

// modelUses says what Uses returns, if that is right for each statement alone.
func modelUses(l []api.Stmt) []api.Symbol {
	var all []api.Symbol
	for _, s := range l {
		switch s.Kind {
		case api.StmtOptional:
		case api.StmtIf:
			blocks := slices.Concat(s.Then, s.Else)
			s.Then, s.Else = nil, nil
			all = slices.Concat(all, scope.Uses([]api.Stmt{s}), modelUses(blocks))
		default:
			all = append(all, scope.Uses([]api.Stmt{s})...)
		}
	}
	return joined(all)
}

// modelCheck says what Check returns for statements, where symbols are visible from outside.
func modelCheck(l []api.Stmt, visible []api.Symbol) api.Fault {
	symbols, f := modelBlock(l)
	if f.Code != api.OK {
		return f
	}
	for _, s := range symbols {
		if f := faultBehind(s, visible); f.Code != api.OK {
			return f
		}
	}
	visible = slices.Concat(visible, symbols)
	for _, s := range l {
		if s.Kind == api.StmtOptional {
			if f := modelCheck(s.Then, visible); f.Code != api.OK {
				return f
			}
			if f := modelCheck(s.Else, visible); f.Code != api.OK {
				return f
			}
			continue
		}
		for _, use := range modelUses([]api.Stmt{s}) {
			if f := modelUse(use, visible); f.Code != api.OK {
				return f
			}
		}
	}
	return api.Fault{}
}

// modelUse returns the fault of a use.
func modelUse(use api.Symbol, visible []api.Symbol) api.Fault {
	code := api.ErrScope
	var perms []string
	for _, s := range visible {
		if spaceOf(s.Kind) != spaceOf(use.Kind) || s.Name != use.Name {
			continue
		}
		code = api.OK
		if use.Kind != 0 && s.Kind != use.Kind {
			code = api.ErrKind
		}
		perms = append(perms, s.Perms...)
	}
	if code != api.OK {
		return api.Fault{Code: code, Pos: use.Pos, Name: use.Name}
	}
	for _, p := range use.Perms {
		if !slices.Contains(perms, p) {
			return api.Fault{Code: api.ErrPerm, Pos: use.Pos, Name: p}
		}
	}
	return api.Fault{}
}

// modelMissing says what Missing returns.
func modelMissing(need, have []api.Symbol) []api.Symbol {
	var l []api.Symbol
	for _, s := range need {
		missing, perms, declared := []string(nil), []string(nil), false
		for _, h := range have {
			if h.Kind == s.Kind && h.Name == s.Name && !h.Required {
				declared, perms = true, append(perms, h.Perms...)
			}
		}
		for _, p := range s.Perms {
			if !slices.Contains(perms, p) {
				missing = append(missing, p)
			}
		}
		if s.Required && (s.Kind != api.SymRole || s.Name != "object_r") && (!declared || len(missing) > 0) {
			s.Perms = missing
			l = append(l, s)
		}
	}
	return l
}
