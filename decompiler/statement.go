package decompiler

import (
	"accesscontrol/api"
)

// statements returns the statements of elements, those with a Cond in blocks of if.
func (d decompiler) statements(l []element) []api.Stmt {
	var stmts []api.Stmt
	for _, e := range l {
		stmts = append(stmts, d.under(e.cond(), d.statement(e)))
	}
	return stmts
}

// under returns a statement within the block of if for a Cond. Then has to have a statement, also where only Else says something.
func (d decompiler) under(cond int, s api.Stmt) api.Stmt {
	switch {
	case cond > always:
		return api.Stmt{Kind: api.StmtIf, Cond: d.condition(cond - 1), Then: []api.Stmt{s}}
	case cond < always:
		return api.Stmt{Kind: api.StmtIf, Cond: d.condition(-cond - 1), Then: []api.Stmt{d.empty()}, Else: []api.Stmt{s}}
	}
	return s
}

// statement returns the statement of an element, without its Cond.
func (d decompiler) statement(e element) api.Stmt {
	switch x := e.(type) {
	case emptyRule:
		return d.empty()
	case roleChanges:
		return api.Stmt{Kind: api.StmtRoleAllow, Source: alone(x.Name), Target: d.roles(x.Next)}
	case rule:
		return d.rule(x)
	case transition:
		return api.Stmt{Kind: api.StmtTrans, Op: x.Kind, Source: d.types(x.Source), Target: d.types(x.Target), Class: d.class(x.Class), Result: d.typeName(x.Result), Text: x.Name}
	case roleTransition:
		return api.Stmt{Kind: api.StmtRoleTrans, Source: d.roles(x.Roles), Target: d.types(x.Types), Class: d.class(x.Class), Result: d.roleName(x.Result)}
	case rangeTransition:
		return api.Stmt{Kind: api.StmtRangeTrans, Source: d.types(x.Source), Target: d.types(x.Target), Class: d.class(x.Class), Range: d.levels(x.Range)}
	case constraintRule:
		return d.constraint(x)
	case initialSid:
		return api.Stmt{Kind: api.StmtSid, Name: x.Name, Context: d.context(x.Context)}
	case fileRule:
		return api.Stmt{Kind: api.StmtFile, Op: x.Kind, Text: x.Pattern, Context: d.context(x.Context)}
	case permissiveTypes:
		return api.Stmt{Kind: api.StmtPermissive, Source: api.NameSet{Names: x}}
	case assertion:
		return api.Stmt{Kind: api.StmtAssert, Name: x.Name, Op: x.Kind, Source: d.types(x.Source), Target: d.types(x.Target)}
	}
	return api.Stmt{}
}

func (d decompiler) rule(r rule) api.Stmt {
	s := api.Stmt{Kind: api.StmtRule, Op: r.Kind, Source: d.types(r.Source), Target: d.types(r.Target), Class: d.class(r.Class), Perms: d.perms(r.Class, r.Perms)}
	s.Target.Self = r.Self
	return s
}

// empty returns the empty rule: its source is empty, so that linking leaves it out.
func (d decompiler) empty() api.Stmt {
	const firstType, firstClass, firstPerm = 0, 0, 1
	s := api.Stmt{Kind: api.StmtRule, Op: api.RuleAllow, Source: alone(d.typeName(firstType)), Target: alone(d.typeName(firstType)), Class: d.class(firstClass), Perms: d.perms(firstClass, firstPerm)}
	s.Source.Except = []string{d.typeName(firstType)}
	return s
}

func (d decompiler) constraint(c constraintRule) api.Stmt {
	s := api.Stmt{Kind: api.StmtConstrain, Class: d.class(c.Class), Cond: d.expression(c.Expr)}
	if c.Validate {
		s.Kind = api.StmtValidate
	} else {
		s.Perms = d.perms(c.Class, c.Perms)
	}
	return s
}
