package printer

import (
	"strings"

	"accesscontrol/api"
	"accesscontrol/boolexp"
	"accesscontrol/grammar"
)

// printer is the source that has been written so far. If it is spaced, a space stands in front of the next word.
type printer struct {
	strings.Builder
	spaced bool
}

// source returns what was written, if it is not too long.
func (p *printer) source() (string, api.Errno) {
	if p.Len() > api.MaxSource {
		return "", api.ErrLong
	}
	return p.String(), api.OK
}

func (p *printer) word(s string) {
	if p.spaced {
		p.WriteByte(' ')
	}
	p.WriteString(s)
	p.spaced = true
}

// open writes a mark behind which no space stands.
func (p *printer) open(mark string) {
	p.word(mark)
	p.spaced = false
}

// close writes a mark in front of which no space stands.
func (p *printer) close(mark string) {
	p.WriteString(mark)
	p.spaced = true
}

// join writes what has no space on either side.
func (p *printer) join(s string) {
	p.WriteString(s)
	p.spaced = false
}

// list writes the elements of a list, with a separator between two of them.
func list[E any](p *printer, l []E, separator string, write func(E)) {
	for i, e := range l {
		if i > 0 {
			p.join(separator)
		}
		write(e)
	}
}

func (p *printer) words(l ...string) {
	list(p, l, " ", p.word)
}

// listed writes names with commas between them.
func (p *printer) listed(names []string) {
	list(p, names, ", ", p.word)
}

// braced writes words in braces.
func (p *printer) braced(l []string) {
	p.word("{")
	p.words(l...)
	p.word("}")
}

func (p *printer) set(n api.NameSet) {
	if n.Not {
		p.word("~")
	}
	l := elements(n)
	if isName := len(n.Names) == 1; len(l) == 1 && (isName || !n.Not) {
		p.word(l[0])
	} else {
		p.braced(l)
	}
}

// elements returns the words of the elements of a set: an exception has two.
func elements(n api.NameSet) []string {
	var l []string
	if n.All {
		l = append(l, "*")
	}
	l = append(l, n.Names...)
	for _, s := range n.Except {
		l = append(l, "-", s)
	}
	if n.Self {
		l = append(l, "self")
	}
	return l
}

func (p *printer) level(l api.LevelText) {
	p.word(l.Sens)
	if len(l.Cats) > 0 {
		p.join(":")
		list(p, l.Cats, ",", p.span)
	}
}

func (p *printer) span(s api.Span) {
	p.word(s.From)
	if s.To != "" {
		p.join(".")
		p.word(s.To)
	}
}

// levels writes a range.
func (p *printer) levels(r api.RangeText) {
	p.level(r.Low)
	if hasHigh(r) {
		p.join("-")
		p.level(r.High)
	}
}

func (p *printer) context(c api.ContextText) {
	list(p, []string{c.User, c.Role, c.Type}, ":", p.word)
	p.join(":")
	p.levels(c.Range)
}

// condition writes the condition of an if statement.
func (p *printer) condition(e api.Expr) {
	s, _ := boolexp.Text(e)
	p.word(s)
}

// constraint writes the expression of a constraint.
func (p *printer) constraint(e api.Expr) {
	switch e.Op {
	case api.ExprCompare:
		p.words(attribute(e.A), grammar.Word(grammar.Relations, e.Rel), attribute(e.B))
	case api.ExprIn:
		p.words(attribute(e.A), "in")
		p.set(api.NameSet{Names: e.Names})
	case api.ExprNot:
		p.open("!")
		p.operand(e.Kids[0], e.Kids[0].Op != api.ExprNot)
	default:
		left, right := e.Kids[0].Op, e.Kids[1].Op
		p.operand(e.Kids[0], bindsLess(left, e.Op))
		p.word(mark(e.Op))
		p.operand(e.Kids[1], bindsLess(right, e.Op) || right == e.Op) // the same operator would be grouped to the left
	}
}

// operand writes an operand, in parentheses or without them.
func (p *printer) operand(e api.Expr, parentheses bool) {
	if !parentheses {
		p.constraint(e)
		return
	}
	p.open("(")
	p.constraint(e)
	p.close(")")
}

// bindsLess reports whether the operator of an operand binds less strongly than that of the expression.
func bindsLess(operand, op int) bool {
	return operand == api.ExprOr && op == api.ExprAnd
}

func mark(op int) string {
	if op == api.ExprAnd {
		return "&&"
	}
	return "||"
}

func attribute(n int) string {
	return grammar.Word(grammar.Attributes, n)
}
