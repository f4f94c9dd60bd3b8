package syntax

import (
	"strconv"

	"accesscontrol/api"
	"accesscontrol/grammar"
	"accesscontrol/token"
)

// parser is the part of the tokens that has not been read yet: from the one with the index at. So many statements begin in front of it, and it stands within so many blocks. A method that meets a fault panics with it.
type parser struct {
	tokens []api.Token
	at     int
	begun  int
	blocks int
}

// whole reads all tokens of a source.
func whole[T any](src string, read func(*parser) T) T {
	tokens, fault := token.Scan(src)
	if fault.Code != api.OK {
		panic(fault)
	}
	p := &parser{tokens: tokens}
	result := read(p)
	if p.next().Kind != api.TokEnd {
		p.fail(api.ErrSyntax)
	}
	return result
}

// recovered returns what was read, or, if a panic was recovered, its fault alone.
func recovered[T any](result T, cause any) (T, api.Fault) {
	if cause == nil {
		return result, api.Fault{}
	}
	var none T
	fault, _ := cause.(api.Fault)
	return none, fault
}

// next returns the next token. TokEnd is never read, so there is one.
func (p *parser) next() api.Token {
	return p.tokens[p.at]
}

// peek returns the text of the next token; that of a string is none, for a string is neither a word nor a mark.
func (p *parser) peek() string {
	if p.next().Kind == api.TokString {
		return ""
	}
	return p.next().Text
}

// fail reports an error at the next token.
func (p *parser) fail(code api.Errno) {
	panic(api.Fault{Code: code, Pos: p.next().Pos, Name: p.next().Text})
}

// accept reads a word or a mark, if it is the next token.
func (p *parser) accept(text string) bool {
	if p.peek() != text {
		return false
	}
	p.at++
	return true
}

func (p *parser) require(text string) {
	if !p.accept(text) {
		p.fail(api.ErrSyntax)
	}
}

func (p *parser) name() string {
	t := p.next()
	if t.Kind != api.TokName || !token.Identifier(t.Text) {
		p.fail(api.ErrSyntax)
	}
	p.at++
	return t.Text
}

// number reads a word of a sort, and returns what it stands for.
func (p *parser) number(sort grammar.Sort) int {
	n, ok := grammar.Number(sort, p.peek())
	if !ok {
		p.fail(api.ErrSyntax)
	}
	p.at++
	return n
}

// version reads the number of a module.
func (p *parser) version() int {
	t := p.next()
	if t.Kind != api.TokNumber {
		p.fail(api.ErrSyntax)
	}
	n, err := strconv.Atoi(t.Text)
	if err != nil || n > grammar.MaxVersion {
		p.fail(api.ErrRange)
	}
	p.at++
	return n
}

// quoted reads a string that is proper.
func (p *parser) quoted(proper func(string) bool) string {
	t := p.next()
	if t.Kind != api.TokString {
		p.fail(api.ErrSyntax)
	}
	if !proper(t.Text) {
		p.fail(api.ErrName)
	}
	p.at++
	return t.Text
}

// listed reads one or more elements with commas between them.
func listed[E any](p *parser, read func() E) []E {
	l := []E{read()}
	for p.accept(",") {
		l = append(l, read())
	}
	return l
}

// braced reads one or more elements in braces.
func braced[E any](p *parser, read func() E) []E {
	p.require("{")
	l := []E{read()}
	for !p.accept("}") {
		l = append(l, read())
	}
	return l
}

// set reads a set of names in which self may not stand.
func (p *parser) set() api.NameSet {
	return p.names(false)
}

// target reads a set of names in which self may stand.
func (p *parser) target() api.NameSet {
	return p.names(true)
}

func (p *parser) names(self bool) api.NameSet {
	n := api.NameSet{Not: p.accept("~")}
	switch {
	case p.accept("{"):
		p.element(&n, self)
		for !p.accept("}") {
			p.element(&n, self)
		}
	case n.Not:
		n.Names = []string{p.name()}
	default:
		p.included(&n, self)
	}
	return n
}

// element reads an element of a set in braces.
func (p *parser) element(n *api.NameSet, self bool) {
	if p.accept("-") {
		n.Except = append(n.Except, p.name())
		return
	}
	p.included(n, self)
}

// included reads an element that is no exception.
func (p *parser) included(n *api.NameSet, self bool) {
	switch {
	case p.accept("*"):
		n.All = true
	case self && p.accept("self"):
		n.Self = true
	default:
		n.Names = append(n.Names, p.name())
	}
}

func (p *parser) level() api.LevelText {
	l := api.LevelText{Sens: p.name()}
	if p.accept(":") {
		l.Cats = listed(p, p.span)
	}
	return l
}

func (p *parser) span() api.Span {
	s := api.Span{From: p.name()}
	if p.accept(".") {
		s.To = p.name()
	}
	return s
}

// levels reads a range.
func (p *parser) levels() api.RangeText {
	r := api.RangeText{Low: p.level()}
	if p.accept("-") {
		r.High = p.level()
	}
	return r
}

func (p *parser) context() api.ContextText {
	c := api.ContextText{User: p.part(), Role: p.part(), Type: p.part()}
	c.Range = p.levels()
	return c
}

// part reads a name of a context, and the colon behind it.
func (p *parser) part() string {
	s := p.name()
	p.require(":")
	return s
}
