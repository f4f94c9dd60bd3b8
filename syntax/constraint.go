package syntax

import (
	"accesscontrol/api"
	"accesscontrol/boolexp"
	"accesscontrol/grammar"
)

// condition reads the condition of an if statement.
func (p *parser) condition() api.Expr {
	e, n, fault := boolexp.Tokens(p.tokens[p.at:])
	if fault.Code != api.OK {
		panic(fault)
	}
	p.at += n
	return e
}

// constraint reads the expression of constrain.
func (p *parser) constraint() api.Expr {
	return expressionReader{parser: p, contexts: 2}.whole()
}

// validation reads the expression of validatetrans.
func (p *parser) validation() api.Expr {
	return expressionReader{parser: p, contexts: 3}.whole()
}

// expressionReader reads an expression in which attributes of so many contexts may stand.
type expressionReader struct {
	*parser
	contexts int
}

func (r expressionReader) whole() api.Expr {
	first := r.at
	e := r.or()
	if height(e) > api.MaxNest {
		r.at = first
		r.fail(api.ErrLong)
	}
	return e
}

func (r expressionReader) or() api.Expr {
	e := r.and()
	for r.accept("||") {
		e = join(api.ExprOr, e, r.and())
	}
	return e
}

func (r expressionReader) and() api.Expr {
	e := r.operand()
	for r.accept("&&") {
		e = join(api.ExprAnd, e, r.operand())
	}
	return e
}

// operand reads a comparison, a negation or a parenthesis.
func (r expressionReader) operand() api.Expr {
	switch {
	case r.accept("!"):
		return join(api.ExprNot, r.operand())
	case r.accept("("):
		e := r.or()
		r.require(")")
		return e
	}
	return r.comparison()
}

func (r expressionReader) comparison() api.Expr {
	a := r.attribute()
	if r.accept("in") {
		return api.Expr{Op: api.ExprIn, A: a, Names: r.members()}
	}
	return api.Expr{Op: api.ExprCompare, A: a, Rel: r.number(grammar.Relations), B: r.attribute()}
}

func (r expressionReader) attribute() int {
	n, ok := grammar.Number(grammar.Attributes, r.peek())
	if !ok || n >= r.contexts*api.AttrsOfContext {
		r.fail(api.ErrSyntax)
	}
	r.at++
	return n
}

// members reads a name, or names in braces.
func (r expressionReader) members() []string {
	if r.peek() == "{" {
		return braced(r.parser, r.name)
	}
	return []string{r.name()}
}

func join(op int, kids ...api.Expr) api.Expr {
	return api.Expr{Op: op, Kids: kids}
}

// height returns the number of levels of an expression.
func height(e api.Expr) int {
	most := 0
	for _, kid := range e.Kids {
		most = max(most, height(kid))
	}
	return most + 1
}
