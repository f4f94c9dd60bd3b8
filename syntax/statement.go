package syntax

import (
	"accesscontrol/api"
	"accesscontrol/grammar"
)

func (p *parser) module() api.Module {
	p.require("module")
	m := api.Module{Name: p.name(), Version: p.version()}
	p.require(";")
	m.Stmts = p.statements()
	return m
}

// statements reads statements up to the end.
func (p *parser) statements() []api.Stmt {
	var l []api.Stmt
	for p.next().Kind != api.TokEnd {
		l = append(l, p.statement())
	}
	return l
}

func (p *parser) statement() api.Stmt {
	s := p.begin()
	switch s.Kind {
	case api.StmtIf:
		s.Cond = p.condition()
		p.readBlocks(&s)
	case api.StmtOptional:
		p.readBlocks(&s)
	default:
		p.readFields(&s)
		p.require(";")
	}
	return s
}

// begin reads the first word of a statement.
func (p *parser) begin() api.Stmt {
	kind, op := first(p.peek())
	hasBlocks := kind == api.StmtIf || kind == api.StmtOptional
	switch {
	case kind == 0:
		p.fail(api.ErrSyntax)
	case p.begun == api.MaxStmts, hasBlocks && p.blocks == api.MaxNest:
		p.fail(api.ErrLong)
	}
	s := api.Stmt{Kind: kind, Op: op, Pos: p.next().Pos}
	p.begun++
	p.at++
	return s
}

// first returns the kind of the statements that begin with a word, and their Op if the word says it; zeros if there are none.
func first(word string) (kind, op int) {
	if op, ok := grammar.Number(grammar.Rules, word); ok {
		return api.StmtRule, op
	}
	if op, ok := grammar.Number(grammar.Transitions, word); ok {
		return api.StmtTrans, op
	}
	kind, _ = grammar.Number(grammar.Statements, word)
	return kind, 0
}

// readBlocks reads the blocks of if and optional.
func (p *parser) readBlocks(s *api.Stmt) {
	s.Then = p.block()
	if p.accept("else") {
		s.Else = p.block()
	}
}

func (p *parser) block() []api.Stmt {
	p.blocks++
	l := braced(p, p.statement)
	p.blocks--
	return l
}

// readFields reads what stands between the first word and the semicolon of a statement.
func (p *parser) readFields(s *api.Stmt) {
	switch s.Kind {
	case api.StmtRoleAllow:
		s.Source, s.Target = p.set(), p.set()
	case api.StmtRoleTrans:
		p.readObjects(s, p.set)
		s.Result = p.name()
	case api.StmtRule:
		p.readObjects(s, p.target)
		s.Perms = p.set()
	case api.StmtTrans:
		p.readObjects(s, p.set)
		s.Result = p.name()
		if s.Op == api.TransCreate && p.next().Kind == api.TokString {
			s.Text = p.quoted(grammar.ObjectName)
		}
	case api.StmtRangeTrans:
		p.readObjects(s, p.set)
		s.Range = p.levels()
	case api.StmtConstrain:
		s.Class, s.Perms, s.Cond = p.set(), p.set(), p.constraint()
	case api.StmtValidate:
		s.Class, s.Cond = p.set(), p.validation()
	case api.StmtRequire:
		p.readRequirement(s)
	case api.StmtFile:
		s.Text, s.Op, s.Context = p.quoted(isPattern), p.number(grammar.Files), p.context()
	case api.StmtPermissive:
		s.Source = p.set()
	default:
		p.readNamed(s)
	}
}

// readNamed reads the fields of a statement that begin with its Name.
func (p *parser) readNamed(s *api.Stmt) {
	s.Name = p.name()
	switch s.Kind {
	case api.StmtClass:
		s.List = braced(p, p.name)
	case api.StmtType:
		if p.accept("alias") {
			s.Aliases = braced(p, p.name)
		}
		if p.accept(",") {
			s.List = listed(p, p.name)
		}
	case api.StmtMember:
		s.List = listed(p, p.name)
	case api.StmtRole:
		if p.accept("types") {
			s.Source = p.set()
		}
	case api.StmtUser:
		p.require("roles")
		s.List = braced(p, p.name)
		p.require("level")
		s.Level = p.level()
		p.require("range")
		s.Range = p.levels()
	case api.StmtBool:
		s.Value = p.boolean()
	case api.StmtSid:
		s.Context = p.context()
	case api.StmtAssert:
		s.Op, s.Source, s.Target = p.number(grammar.Asserts), p.set(), p.set()
	}
}

// readObjects reads the source, the target and the class of a rule or a transition.
func (p *parser) readObjects(s *api.Stmt, target func() api.NameSet) {
	s.Source, s.Target = p.set(), target()
	p.require(":")
	s.Class = p.set()
}

func (p *parser) readRequirement(s *api.Stmt) {
	s.Op = p.number(grammar.Symbols)
	if s.Op == api.SymClass {
		s.Name, s.List = p.name(), braced(p, p.name)
		return
	}
	s.List = listed(p, p.name)
}

func (p *parser) boolean() bool {
	if p.accept("true") {
		return true
	}
	p.require("false")
	return false
}

// isPattern reports whether a string may stand in filecon.
func isPattern(s string) bool { return s != "" }
