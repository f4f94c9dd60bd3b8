package printer

import (
	"strconv"
	"strings"

	"accesscontrol/api"
	"accesscontrol/grammar"
)

// statements writes statements at a level, each with a line feed behind it.
func (p *printer) statements(l []api.Stmt, level int) {
	for i := range l {
		p.statement(&l[i], level)
		p.join("\n")
	}
}

func (p *printer) statement(s *api.Stmt, level int) {
	p.join(indentation(level))
	p.word(first(s))
	switch s.Kind {
	case api.StmtIf:
		p.condition(s.Cond)
		p.blocks(s, level)
	case api.StmtOptional:
		p.blocks(s, level)
	default:
		p.fields(s)
		p.close(";")
	}
}

func indentation(level int) string {
	return strings.Repeat("  ", level)
}

// first returns the word with which a statement begins.
func first(s *api.Stmt) string {
	switch s.Kind {
	case api.StmtRule, api.StmtTrans:
		return opWord(s)
	}
	return grammar.Word(grammar.Statements, s.Kind)
}

// opWord returns the word for the Op of a statement.
func opWord(s *api.Stmt) string {
	return grammar.Word(sortOf(s), s.Op)
}

func (p *printer) blocks(s *api.Stmt, level int) {
	p.block(s.Then, level)
	if len(s.Else) > 0 {
		p.word("else")
		p.block(s.Else, level)
	}
}

// block writes a block of a statement that stands at a level.
func (p *printer) block(l []api.Stmt, level int) {
	p.word("{")
	p.join("\n")
	p.statements(l, level+1)
	p.join(indentation(level))
	p.word("}")
}

// fields writes what stands between the first word and the semicolon of a statement.
func (p *printer) fields(s *api.Stmt) {
	switch s.Kind {
	case api.StmtRoleAllow:
		p.set(s.Source)
		p.set(s.Target)
	case api.StmtRoleTrans:
		p.objects(s)
		p.word(s.Result)
	case api.StmtRule:
		p.objects(s)
		p.set(s.Perms)
	case api.StmtTrans:
		p.objects(s)
		p.word(s.Result)
		if s.Text != "" {
			p.quoted(s.Text)
		}
	case api.StmtRangeTrans:
		p.objects(s)
		p.levels(s.Range)
	case api.StmtConstrain:
		p.set(s.Class)
		p.set(s.Perms)
		p.constraint(s.Cond)
	case api.StmtValidate:
		p.set(s.Class)
		p.constraint(s.Cond)
	case api.StmtRequire:
		p.requirement(s)
	case api.StmtFile:
		p.quoted(s.Text)
		p.word(opWord(s))
		p.context(s.Context)
	case api.StmtPermissive:
		p.set(s.Source)
	default:
		p.named(s)
	}
}

// named writes the fields of a statement that begin with its Name.
func (p *printer) named(s *api.Stmt) {
	p.word(s.Name)
	switch s.Kind {
	case api.StmtClass:
		p.braced(s.List)
	case api.StmtType:
		p.typeLists(s)
	case api.StmtMember:
		p.listed(s.List)
	case api.StmtRole:
		if !sameSet(s.Source, api.NameSet{}) {
			p.word("types")
			p.set(s.Source)
		}
	case api.StmtUser:
		p.word("roles")
		p.braced(s.List)
		p.word("level")
		p.level(s.Level)
		p.word("range")
		p.levels(s.Range)
	case api.StmtBool:
		p.word(strconv.FormatBool(s.Value))
	case api.StmtSid:
		p.context(s.Context)
	case api.StmtAssert:
		p.word(opWord(s))
		p.set(s.Source)
		p.set(s.Target)
	}
}

// typeLists writes the aliases and the attributes of a type.
func (p *printer) typeLists(s *api.Stmt) {
	if len(s.Aliases) > 0 {
		p.word("alias")
		p.braced(s.Aliases)
	}
	if len(s.List) > 0 {
		p.close(",")
		p.listed(s.List)
	}
}

// objects writes the source, the target and the class of a rule or a transition.
func (p *printer) objects(s *api.Stmt) {
	p.set(s.Source)
	p.set(s.Target)
	p.word(":")
	p.set(s.Class)
}

func (p *printer) requirement(s *api.Stmt) {
	p.word(opWord(s))
	if s.Op == api.SymClass {
		p.word(s.Name)
		p.braced(s.List)
		return
	}
	p.listed(s.List)
}

func (p *printer) quoted(s string) {
	p.word(`"` + s + `"`)
}
