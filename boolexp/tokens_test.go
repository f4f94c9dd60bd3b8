package boolexp_test

import (
	"slices"
	"testing"

	"accesscontrol/api"
	"accesscontrol/boolexp"
)

// words returns tokens with these texts: names, or marks; each stands in a line of its own.
func words(l ...string) []api.Token {
	var tokens []api.Token
	for i, s := range l {
		kind := api.TokMark
		if s != "" && s[0] >= 'a' && s[0] <= 'z' {
			kind = api.TokName
		}
		tokens = append(tokens, api.Token{Kind: kind, Text: s, Pos: api.Pos{Line: i + 7, Col: 3}})
	}
	return tokens
}

// yard reads a condition with a stack of the operators and parentheses that are open.
type yard struct {
	open   []string
	values []api.Expr
}

func strengthOf(mark string) int {
	switch mark {
	case "||":
		return 1
	case "^":
		return 2
	case "&&":
		return 3
	case "==", "!=":
		return 4
	}
	return 0
}

func opOf(mark string) int {
	return map[string]int{"||": api.ExprOr, "^": api.ExprXor, "&&": api.ExprAnd, "==": api.ExprSame, "!=": api.ExprDiffer}[mark]
}

func (y *yard) top() string {
	if len(y.open) == 0 {
		return ""
	}
	return y.open[len(y.open)-1]
}

func (y *yard) pop() { y.open = y.open[:len(y.open)-1] }

// nest returns how many ! and ( are open.
func (y *yard) nest() int {
	n := 0
	for _, s := range y.open {
		if s == "!" || s == "(" {
			n++
		}
	}
	return n
}

// reduce joins values by the operators at the top that bind at least so strongly.
func (y *yard) reduce(strength int) {
	for strengthOf(y.top()) >= strength {
		n := len(y.values)
		y.values = append(y.values[:n-2], binary(opOf(y.top()), y.values[n-2], y.values[n-1]))
		y.pop()
	}
}

// push adds an operand, to which the open nots are applied.
func (y *yard) push(e api.Expr) {
	for y.top() == "!" {
		e = not(e)
		y.pop()
	}
	y.values = append(y.values, e)
}

// tokens is the definition of Tokens, for marks and the names a, b, .. that are identifiers if they have one letter.
func (y *yard) tokens(l []api.Token) (api.Expr, int, api.Fault) {
	needed := true // an operand
	for i := 0; ; i++ {
		t := api.Token{}
		if i < len(l) {
			t = l[i]
		}
		mark := ""
		if t.Kind == api.TokMark {
			mark = t.Text
		}
		switch {
		case needed && (mark == "!" || mark == "("):
			if y.nest() == api.MaxNest {
				return api.Expr{}, 0, api.Fault{Code: api.ErrLong, Pos: t.Pos}
			}
			y.open = append(y.open, mark)
		case needed && t.Kind == api.TokName && len(t.Text) == 1:
			y.push(name(t.Text))
			needed = false
		case needed:
			return api.Expr{}, 0, api.Fault{Code: api.ErrSyntax, Pos: t.Pos}
		case strengthOf(mark) > 0:
			y.reduce(strengthOf(mark))
			y.open = append(y.open, mark)
			needed = true
		case mark == ")" && slices.Contains(y.open, "("):
			y.reduce(1)
			y.pop()
			e := y.values[len(y.values)-1]
			y.values = y.values[:len(y.values)-1]
			y.push(e)
		case slices.Contains(y.open, "("):
			return api.Expr{}, 0, api.Fault{Code: api.ErrSyntax, Pos: t.Pos}
		default:
			y.reduce(1)
			if levels(y.values[0]) > api.MaxNest {
				return api.Expr{}, 0, api.Fault{Code: api.ErrLong, Pos: l[0].Pos}
			}
			return y.values[0], i, api.Fault{}
		}
	}
}

func checkTokens(t *testing.T, l []api.Token, want api.Expr, count int, fault api.Fault) {
	t.Helper()
	e, n, f := boolexp.Tokens(l)
	if !equalExpr(e, want) || n != count || f != fault {
		t.Errorf("Tokens(%.300v): got %.200s, %d, %v, want %.200s, %d, %v", l, show(e), n, f, show(want), count, fault)
	}
}

// checkByYard compares Tokens with the definition.
func checkByYard(t *testing.T, l []api.Token) {
	t.Helper()
	e, n, f := (&yard{}).tokens(l)
	checkTokens(t, l, e, n, f)
}

// P6.3: Tokens of all lists of up to five tokens, and of longer ones with fewer kinds.
func TestTokensAll(t *testing.T) {
	texts := []string{"a", "b", "if", "!", "(", ")", "&&", "||", "^", "==", "!=", ";"}
	for length := range 6 {
		eachList(texts, length, func(l []string) { checkByYard(t, words(l...)) })
	}
	eachList([]string{"a", "!", "(", ")", "=="}, 7, func(l []string) { checkByYard(t, words(l...)) })
	eachList([]string{"&&", "||", "^", "==", "!="}, 4, func(l []string) {
		checkByYard(t, words("a", l[0], "b", l[1], "c", l[2], "d", l[3], "e"))
		checkByYard(t, words("a", l[0], "!", "b", l[1], "(", "c", l[2], "d", ")", l[3], "e", "x"))
	})
}

// eachList visits all lists of so many texts.
func eachList(texts []string, length int, visit func([]string)) {
	l := make([]string, length)
	var fill func(i int)
	fill = func(i int) {
		if i == length {
			visit(l)
			return
		}
		for _, s := range texts {
			l[i] = s
			fill(i + 1)
		}
	}
	fill(0)
}

// P6.3: Tokens of longer lists, which follow a rule.
func TestTokensPicked(t *testing.T) {
	operands, between := []string{"a", "b", "a", "(", "!", "(", "!"}, []string{"&&", "||", "^", "==", "!=", ")", ")", ")", ")"}
	for seed := range 20000 {
		pick := picker(seed)
		var l []string
		needed := true
		for range 1 + pick(70) {
			from := between
			if needed {
				from = operands[:3+pick(5)]
			}
			s := from[pick(len(from))]
			l = append(l, s)
			needed = s == "(" || s == "!" || strengthOf(s) > 0
		}
		if pick(4) == 0 {
			l[pick(len(l))] = "if"
		}
		checkByYard(t, words(l...))
	}
}

// P6.3: only Kind and Text of a token count.
func TestTokensKinds(t *testing.T) {
	a, and := words("a")[0], words("&&")[0]
	pos := api.Pos{Line: -5, Col: 1 << 40}
	syntax := api.Fault{Code: api.ErrSyntax, Pos: pos}
	for _, bad := range []api.Token{
		{}, {Text: "a"}, {Text: "!"}, {Kind: api.TokEnd}, {Kind: api.TokNumber, Text: "a"}, {Kind: api.TokString, Text: "a"}, {Kind: api.TokString, Text: "("}, {Kind: api.TokMark, Text: "a"}, {Kind: api.TokMark, Text: "! "},
		{Kind: api.TokName, Text: "!"}, {Kind: api.TokName, Text: "("}, {Kind: api.TokName}, {Kind: api.TokName, Text: "self"}, {Kind: api.TokName, Text: "1a"}, {Kind: api.TokName, Text: "a "},
		{Kind: api.TokName, Text: "nnnnnnnnnnnnnnnnnnnnnnnnnnnnnnnnn"}, {Kind: -1, Text: "a"}, {Kind: 99, Text: "!"}, {Kind: api.TokNumber, Text: "1"}, {Kind: api.TokMark}, {Kind: api.TokMark, Text: "{"},
	} {
		bad.Pos = pos
		checkTokens(t, []api.Token{bad}, api.Expr{}, 0, syntax)
		checkTokens(t, []api.Token{bad, a}, api.Expr{}, 0, syntax)
		checkTokens(t, []api.Token{a, and, bad, a}, api.Expr{}, 0, syntax)
		checkTokens(t, []api.Token{a, bad, a}, name("a"), 1, api.Fault{})
		checkTokens(t, []api.Token{words("(")[0], a, bad, a}, api.Expr{}, 0, syntax)
	}
	for _, text := range []string{"&&", "||", "^", "==", "!=", ")"} {
		for _, kind := range []int{api.TokEnd, api.TokName, api.TokNumber, api.TokString, -1, 9} {
			bad := api.Token{Kind: kind, Text: text, Pos: pos}
			checkTokens(t, []api.Token{a, bad, a}, name("a"), 1, api.Fault{})
			checkTokens(t, []api.Token{words("(")[0], a, bad}, api.Expr{}, 0, syntax)
		}
	}
	checkTokens(t, []api.Token{{Kind: api.TokName, Text: "a"}, {Kind: api.TokMark, Text: "=="}, {Kind: api.TokName, Text: "b"}, {}}, same(name("a"), name("b")), 3, api.Fault{})
}

// P6.3: behind the last token there is no position.
func TestTokensEnd(t *testing.T) {
	none := api.Fault{Code: api.ErrSyntax}
	for _, l := range [][]string{nil, {"!"}, {"("}, {"(", "a"}, {"a", "&&"}, {"a", "==", "!"}, {"(", "(", "a", ")"}, {"(", "a", "^"}} {
		checkTokens(t, words(l...), api.Expr{}, 0, none)
		checkTokens(t, append(words(l...), api.Token{Pos: api.Pos{Line: 1, Col: 2}}), api.Expr{}, 0, api.Fault{Code: api.ErrSyntax, Pos: api.Pos{Line: 1, Col: 2}})
	}
	checkTokens(t, []api.Token{}, api.Expr{}, 0, none)
}

// P6.3: nesting that is too deep, with the zero position where the tokens have none; and lists without an end of it.
func TestTokensNesting(t *testing.T) {
	for _, mark := range []string{"!", "("} {
		for n := range 16 {
			l := words(append(slices.Repeat([]string{mark}, n), "a")...)
			if mark == "(" {
				l = append(l, words(slices.Repeat([]string{")"}, n)...)...)
			}
			checkByYard(t, l)
			checkByYard(t, append(words("b", "&&"), l...))
		}
		many := words(slices.Repeat([]string{mark}, 1<<16)...)
		checkTokens(t, many, api.Expr{}, 0, api.Fault{Code: api.ErrLong, Pos: many[12].Pos})
	}
	long := words(append(slices.Repeat([]string{"a", "||"}, 1<<16), "a")...)
	checkTokens(t, long, api.Expr{}, 0, api.Fault{Code: api.ErrLong, Pos: long[0].Pos})
	checkTokens(t, append(long, words("^")...), api.Expr{}, 0, api.Fault{Code: api.ErrSyntax})
	long[0].Pos = api.Pos{}
	checkTokens(t, long, api.Expr{}, 0, api.Fault{Code: api.ErrLong})
}

// P6.3: the condition is new memory, and the tokens stay as they are.
func TestTokensMemory(t *testing.T) {
	l := words("a", "&&", "a", "^", "!", "a", ";")
	old := slices.Clone(l)
	e, _, _ := boolexp.Tokens(l)
	checkMemory(t, e)
	f, _, _ := boolexp.Tokens(l)
	checkMemory(t, f, e)
	if !slices.Equal(l, old) {
		t.Errorf("the tokens changed to %v", l)
	}
}
