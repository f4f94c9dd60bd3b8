package boolexp

import (
	"accesscontrol/api"
	"accesscontrol/token"
)

// Parse returns the expression that a text denotes.
func Parse(s string) (api.Expr, api.Fault) {
	l, fault := token.Scan(s)
	if fault.Code != api.OK {
		return api.Expr{}, fault
	}
	e, n, fault := Tokens(l)
	if fault.Code != api.OK {
		return api.Expr{}, fault
	}
	if l[n].Kind != api.TokEnd {
		return api.Expr{}, api.Fault{Code: api.ErrSyntax, Pos: l[n].Pos}
	}
	return e, api.Fault{}
}

// Tokens parses an expression at the beginning of tokens, and returns how many tokens it has.
func Tokens(l []api.Token) (e api.Expr, n int, fault api.Fault) {
	defer func() {
		if f, ok := recover().(api.Fault); ok {
			e, n, fault = api.Expr{}, 0, f
		}
	}()
	r := reader{tokens: l}
	e = r.operators(bindsOr)
	if Check(e) != api.OK {
		panic(api.Fault{Code: api.ErrLong, Pos: l[0].Pos})
	}
	return e, r.at, api.Fault{}
}

// reader is the part of the tokens that has not been read yet. It stands within so many operands of ! and parentheses. A method that meets a fault panics with it.
type reader struct {
	tokens []api.Token
	at     int
	within int
}

// operators reads what consists of operators that bind as strongly as strength, or more.
func (r *reader) operators(strength int) api.Expr {
	if strength == bindsNot {
		return r.operand()
	}
	e := r.operators(strength + 1)
	for {
		op, ok := r.operator(strength)
		if !ok {
			return e
		}
		r.at++
		e = api.Expr{Op: op, Kids: []api.Expr{e, r.operators(strength + 1)}}
	}
}

// operator returns the operator between two operands that the next token is, if it binds with this strength.
func (r *reader) operator(strength int) (int, bool) {
	for op := api.ExprAnd; op <= api.ExprDiffer; op++ {
		if binding(op) == strength && r.stands(mark(op)) {
			return op, true
		}
	}
	return 0, false
}

// operand reads a name, a negation or a parenthesis.
func (r *reader) operand() api.Expr {
	switch {
	case r.stands(markNot):
		r.enter()
		e := api.Expr{Op: api.ExprNot, Kids: []api.Expr{r.operand()}}
		r.within--
		return e
	case r.stands(markOpen):
		r.enter()
		e := r.operators(bindsOr)
		r.within--
		if !r.stands(markClose) {
			r.fail(api.ErrSyntax)
		}
		r.at++
		return e
	}
	return r.name()
}

func (r *reader) name() api.Expr {
	t := r.next()
	if t.Kind != api.TokName || !token.Identifier(t.Text) {
		r.fail(api.ErrSyntax)
	}
	r.at++
	return api.Expr{Op: api.ExprName, Names: []string{t.Text}}
}

// enter reads the mark in front of what stands within it.
func (r *reader) enter() {
	if r.within == api.MaxNest {
		r.fail(api.ErrLong)
	}
	r.at++
	r.within++
}

func (r *reader) stands(text string) bool {
	t := r.next()
	return t.Kind == api.TokMark && t.Text == text
}

// next returns the next token; behind the last one, the end without a position.
func (r *reader) next() api.Token {
	if r.at == len(r.tokens) {
		return api.Token{Kind: api.TokEnd}
	}
	return r.tokens[r.at]
}

// fail reports an error at the next token.
func (r *reader) fail(code api.Errno) {
	panic(api.Fault{Code: code, Pos: r.next().Pos})
}
