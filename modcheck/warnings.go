package modcheck

import (
	"accesscontrol/api"
	"accesscontrol/boolexp"
	"accesscontrol/printer"
)

// appendWarnings appends the warnings of the statements of a block, and of those in their blocks.
func appendWarnings(w []api.Fault, l []api.Stmt) []api.Fault {
	for i := range l {
		s := &l[i]
		if isConstant(s) {
			w = append(w, api.Fault{Code: api.ErrState, Pos: s.Pos})
		}
		for _, n := range namedSets(s) {
			if isCertainlyEmpty(n.set) {
				w = append(w, api.Fault{Code: api.ErrNone, Pos: s.Pos, Name: n.name})
			}
		}
		if isRepeated(l, i) {
			w = append(w, api.Fault{Code: api.ErrTwice, Pos: s.Pos})
		}
		w = appendWarnings(w, s.Then)
		w = appendWarnings(w, s.Else)
	}
	return w
}

// isConstant reports whether a statement has a condition that is always true or always false.
func isConstant(s *api.Stmt) bool {
	if s.Kind != api.StmtIf {
		return false
	}
	_, constant := boolexp.Constant(s.Cond)
	return constant
}

// isRepeated reports whether a statement ahead of the statement i is equal to it.
func isRepeated(l []api.Stmt, i int) bool {
	for j := range i {
		if printer.SameStatements(l[j:j+1], l[i:i+1]) {
			return true
		}
	}
	return false
}

// namedSet is a set of names of a statement, and what it is called in warnings.
type namedSet struct {
	name string
	set  *api.NameSet
}

// namedSets returns the sets that a rule, a transition, a constraint, roleallow, permissive or assert has.
func namedSets(s *api.Stmt) []namedSet {
	source, target := namedSet{"source", &s.Source}, namedSet{"target", &s.Target}
	class, perms := namedSet{"class", &s.Class}, namedSet{"permission", &s.Perms}
	switch s.Kind {
	case api.StmtRule:
		return []namedSet{source, target, class, perms}
	case api.StmtTrans, api.StmtRoleTrans, api.StmtRangeTrans:
		return []namedSet{source, target, class}
	case api.StmtConstrain:
		return []namedSet{class, perms}
	case api.StmtValidate:
		return []namedSet{class}
	case api.StmtRoleAllow, api.StmtAssert:
		return []namedSet{source, target}
	case api.StmtPermissive:
		return []namedSet{source}
	}
	return nil
}

// isCertainlyEmpty reports whether a set of names has no elements, whatever the names mean.
func isCertainlyEmpty(n *api.NameSet) bool {
	if n.Not {
		return n.All && len(n.Except) == 0
	}
	return !n.All && !n.Self && hasAll(n.Except, n.Names)
}

// hasAll reports whether a list has all of some names.
func hasAll(l, names []string) bool {
	listed := map[string]bool{}
	for _, name := range l {
		listed[name] = true
	}
	for _, name := range names {
		if !listed[name] {
			return false
		}
	}
	return true
}
