package modcheck_test

import (
	"slices"

	"accesscontrol/api"
	"accesscontrol/boolexp"
	"accesscontrol/level"
	"accesscontrol/modcheck"
	"accesscontrol/printer"
	"accesscontrol/scope"
)

// The model follows the words of the chapter: it lists the statements of a module in order, each with what the chapter asks of its place.

// placed is a statement with the kind of its block, the statements ahead of it in the block, and what is visible to it.
type placed struct {
	s       api.Stmt
	block   int
	earlier []api.Stmt
	visible []api.Symbol
}

// inOrder lists statements that stand in a block of a kind.
func inOrder(l []api.Stmt, block int, visible []api.Symbol) []placed {
	var all []placed
	for i, s := range l {
		all = append(all, placed{s, block, l[:i], visible})
		for _, part := range [][]api.Stmt{s.Then, s.Else} {
			seen := slices.Clone(visible)
			if s.Kind == api.StmtOptional {
				symbols, _ := scope.Block(part)
				seen = append(seen, symbols...)
			}
			all = append(all, inOrder(part, s.Kind, seen)...)
		}
	}
	return all
}

// modelCheck says what Check returns.
func modelCheck(m api.Module) api.Fault {
	if code := printer.Check(m); code != api.OK {
		return api.Fault{Code: code}
	}
	if f := scope.Check(m); f.Code != api.OK {
		return f
	}
	symbols, _ := scope.Symbols(m)
	for _, p := range inOrder(m.Stmts, 0, symbols) {
		if code := modelPlacement(p.s, p.block); code != api.OK {
			return api.Fault{Code: code, Pos: p.s.Pos}
		}
		if f := modelStatement(p.s, p.visible); f.Code != api.OK {
			return f
		}
	}
	return api.Fault{}
}

func modelPlacement(s api.Stmt, block int) api.Errno {
	rule := s.Kind == api.StmtRule && slices.Contains([]int{api.RuleAllow, api.RuleAuditAllow, api.RuleDontAudit}, s.Op)
	if block == api.StmtIf && !rule && s.Kind != api.StmtTrans {
		return api.ErrKind
	}
	return api.OK
}

// modelStatement says what Statement returns for a well-formed statement.
func modelStatement(s api.Stmt, l []api.Symbol) api.Fault {
	at := func(code api.Errno, name string) api.Fault { return api.Fault{Code: code, Pos: s.Pos, Name: name} }
	if s.Kind == api.StmtClass {
		if len(s.List) > api.MaxPerms {
			return at(api.ErrLong, "")
		}
		for i, name := range s.List {
			if slices.Index(s.List, name) < i {
				return at(api.ErrTwice, name)
			}
		}
	}
	var roles []string
	switch s.Kind {
	case api.StmtUser:
		roles = s.List
	case api.StmtRoleAllow:
		roles = slices.Concat(s.Source.Names, s.Target.Names, s.Source.Except, s.Target.Except)
	case api.StmtRoleTrans:
		roles = append(slices.Concat(s.Source.Except, s.Source.Names), s.Result)
	}
	if slices.Contains(roles, "object_r") {
		return at(api.ErrKind, "object_r")
	}
	if modelLevels(s, l) {
		return at(api.ErrLevel, "")
	}
	for _, e := range nodes(s.Cond) {
		if (s.Kind == api.StmtConstrain || s.Kind == api.StmtValidate) && wrongSorts(e) {
			return at(api.ErrKind, "")
		}
	}
	return api.Fault{}
}

// modelLevels reports whether a statement has ErrLevel.
func modelLevels(s api.Stmt, l []api.Symbol) bool {
	ranges := map[int]api.RangeText{api.StmtUser: s.Range, api.StmtRangeTrans: s.Range, api.StmtSid: s.Context.Range, api.StmtFile: s.Context.Range}
	r, ok := ranges[s.Kind]
	if !ok {
		return false
	}
	if r.High.Sens == "" {
		r.High = r.Low
	}
	sens, cats := scope.Declared(l, api.SymSensitivity), scope.Declared(l, api.SymCategory)
	low, lowIs := modelLevel(r.Low, sens, cats)
	high, highIs := modelLevel(r.High, sens, cats)
	own, ownIs := modelLevel(s.Level, sens, cats)
	return lowIs == wrong || highIs == wrong || ownIs == wrong ||
		lowIs == known && highIs == known && (!level.Dominates(high, low) || ownIs == known && !(level.Dominates(own, low) && level.Dominates(high, own)))
}

const (
	unknown = iota
	known
	wrong // known, and not valid
)

func modelLevel(l api.LevelText, sens, cats []string) (api.Level, int) {
	names := []string{}
	for _, s := range l.Cats {
		names = append(names, s.From)
		if s.To != "" {
			names = append(names, s.To)
		}
	}
	for _, name := range names {
		if !slices.Contains(cats, name) {
			return api.Level{}, unknown
		}
	}
	meaning, code := level.Level(l, sens, cats)
	switch code {
	case api.OK:
		return meaning, known
	case api.ErrLevel:
		return meaning, wrong
	}
	return meaning, unknown
}

// nodes lists the nodes of an expression.
func nodes(e api.Expr) []api.Expr {
	l := []api.Expr{e}
	for _, kid := range e.Kids {
		l = append(l, nodes(kid)...)
	}
	return l
}

func wrongSorts(e api.Expr) bool {
	sorts := "urtllurtllurtll"
	switch e.Op {
	case api.ExprCompare:
		return sorts[e.A] != sorts[e.B] || sorts[e.A] != 'l' && e.Rel > api.RelDiffer
	case api.ExprIn:
		return sorts[e.A] == 'l'
	}
	return false
}

// modelWarnings says what Warnings returns for a well-formed module.
func modelWarnings(m api.Module) []api.Fault {
	var w []api.Fault
	for _, p := range inOrder(m.Stmts, 0, nil) {
		if _, constant := boolexp.Constant(p.s.Cond); p.s.Kind == api.StmtIf && constant {
			w = append(w, api.Fault{Code: api.ErrState, Pos: p.s.Pos})
		}
		if p.s.Kind != api.StmtRole { // all other statements have sets only as far as they are examined
			for i, n := range []api.NameSet{p.s.Source, p.s.Target, p.s.Class, p.s.Perms} {
				if !printer.SameStatements([]api.Stmt{{Source: n}}, []api.Stmt{{}}) && modelEmpty(n) {
					w = append(w, api.Fault{Code: api.ErrNone, Pos: p.s.Pos, Name: []string{"source", "target", "class", "permission"}[i]})
				}
			}
		}
		if slices.ContainsFunc(p.earlier, func(s api.Stmt) bool { return printer.SameStatements([]api.Stmt{s}, []api.Stmt{p.s}) }) {
			w = append(w, api.Fault{Code: api.ErrTwice, Pos: p.s.Pos})
		}
	}
	return w
}

func modelEmpty(n api.NameSet) bool {
	left := slices.DeleteFunc(slices.Clone(n.Names), func(name string) bool { return slices.Contains(n.Except, name) })
	return !n.Not && !n.All && !n.Self && len(left) == 0 || n.Not && n.All && len(n.Except) == 0
}

// modelUnused says what Unused returns.
func modelUnused(m api.Module) []api.Symbol {
	l, f := scope.Symbols(m)
	var used []api.Symbol
	for _, p := range inOrder(m.Stmts, 0, nil) {
		p.s.Then, p.s.Else = nil, nil
		used = append(used, scope.Uses([]api.Stmt{p.s})...)
	}
	l = slices.DeleteFunc(l, func(s api.Symbol) bool {
		return !s.Required || slices.ContainsFunc(used, func(u api.Symbol) bool {
			return u.Name == s.Name && (u.Kind == s.Kind || u.Kind == 0 && (s.Kind == api.SymType || s.Kind == api.SymAttribute))
		})
	})
	if f.Code != api.OK {
		return nil
	}
	return l
}

// isFaultless reports whether the three checks find nothing.
func isFaultless(m api.Module) bool {
	symbols, _ := scope.Symbols(m)
	for _, p := range inOrder(m.Stmts, 0, symbols) {
		if modcheck.Placement(p.s, p.block) != api.OK || modcheck.Statement(p.s, p.visible) != (api.Fault{}) {
			return false
		}
	}
	return printer.Check(m) == api.OK && scope.Check(m) == (api.Fault{})
}
