package syntax_test

import (
	"reflect"
	"slices"
	"strings"
	"testing"

	"accesscontrol/api"
	"accesscontrol/syntax"
)

// P7.2: Names of all sets with up to three elements.
func TestNames(t *testing.T) {
	check := func(src string, want api.NameSet) {
		t.Helper()
		if n, f := syntax.Names(src); f != (api.Fault{}) || !reflect.DeepEqual(n, want) {
			t.Errorf("Names(%q): got %v, %v, want %v", src, n, f, want)
		}
	}
	check("a", names("a"))
	check("*", api.NameSet{All: true})
	check("self", api.NameSet{Self: true})
	check("~ a", api.NameSet{Not: true, Names: []string{"a"}})
	check("~ { a - b }", api.NameSet{Not: true, Names: []string{"a"}, Except: []string{"b"}})
	check(" #\n u1 #", names("u1"))
	var extend func(src string, n api.NameSet, more int)
	extend = func(src string, n api.NameSet, more int) {
		if src != "" {
			check("{ "+src+"}", n)
			n.Not = true
			check("~{"+src+"}", n)
			n.Not = false
		}
		if more == 0 {
			return
		}
		for _, s := range []string{"a", "b"} {
			included, excluded := n, n
			included.Names = append(slices.Clone(n.Names), s)
			excluded.Except = append(slices.Clone(n.Except), s)
			extend(src+s+" ", included, more-1)
			extend(src+"- "+s+" ", excluded, more-1)
		}
		all, self := n, n
		all.All, self.Self = true, true
		extend(src+"* ", all, more-1)
		extend(src+"self ", self, more-1)
	}
	extend("", api.NameSet{}, 3)
}

// partFaults checks the faults of a function that parses a part.
func partFaults[T any](t *testing.T, parse func(string) (T, api.Fault), src string, col int, name string) {
	t.Helper()
	if x, f := parse(src); f != fault(api.ErrSyntax, 1, col, name) || !reflect.ValueOf(x).IsZero() {
		t.Errorf("the part %q: got %v, %v, want column %d, %q", src, x, f, col, name)
	}
}

// P7.2: the faults of Names.
func TestNamesFaults(t *testing.T) {
	for _, x := range []struct {
		src  string
		col  int
		name string
	}{
		{"", 1, ""}, {"{", 2, ""}, {"{ }", 3, "}"}, {"~ { }", 5, "}"}, {"~", 2, ""}, {"~ ~ a", 3, "~"}, {"~ *", 3, "*"}, {"~ self", 3, "self"}, {"- a", 1, "-"}, {"{ - }", 5, "}"}, {"{ - self }", 5, "self"}, {"{ - * }", 5, "*"}, {"{ ~ a }", 3, "~"},
		{"a b", 3, "b"}, {"a;", 2, ";"}, {"{ a } b", 7, "b"}, {"{ a } }", 7, "}"}, {"a }", 3, "}"}, {"{ a, b }", 4, ","}, {"{ a { b } }", 5, "{"}, {"* *", 3, "*"}, {"if", 1, "if"}, {"\"a\"", 1, "a"}, {"7", 1, "7"}, {"{ \"a\" }", 3, "a"}, {"\"*\"", 1, "*"}, {"{ a \"}\"", 5, "}"},
	} {
		partFaults(t, syntax.Names, x.src, x.col, x.name)
	}
}

// levelTexts are levels, with their sources.
func levelTexts() map[string]api.LevelText {
	return map[string]api.LevelText{
		"s0":                           sens("s0"),
		"dom : c0":                     {Sens: "dom", Cats: []api.Span{{From: "c0"}}},
		"s1:c0.c0":                     {Sens: "s1", Cats: []api.Span{{From: "c0", To: "c0"}}},
		"s1 : c2 . c0 , c1 , c2 , a.b": {Sens: "s1", Cats: []api.Span{{From: "c2", To: "c0"}, {From: "c1"}, {From: "c2"}, {From: "a", To: "b"}}},
	}
}

// P7.2: Range and Context.
func TestRangeAndContext(t *testing.T) {
	check := func(src string, want api.RangeText) {
		t.Helper()
		if r, f := syntax.Range(src); f != (api.Fault{}) || !reflect.DeepEqual(r, want) {
			t.Errorf("Range(%q): got %v, %v, want %v", src, r, f, want)
		}
		if c, f := syntax.Context("u : r : link : " + src); f != (api.Fault{}) || !reflect.DeepEqual(c, api.ContextText{User: "u", Role: "r", Type: "link", Range: want}) {
			t.Errorf("Context of %q: got %v, %v, want %v", src, c, f, want)
		}
	}
	for low, l := range levelTexts() {
		check(low, api.RangeText{Low: l})
		for high, h := range levelTexts() {
			check(low+" - "+high, api.RangeText{Low: l, High: h})
			check(low+"-"+high+" # a", api.RangeText{Low: l, High: h})
		}
	}
}

// P7.2: the faults of Range and Context.
func TestRangeAndContextFaults(t *testing.T) {
	for _, x := range []struct {
		src  string
		col  int
		name string
	}{
		{"", 1, ""}, {"s0 s1", 4, "s1"}, {"s0:", 4, ""}, {"s0:c0.", 7, ""}, {"s0:c0,", 7, ""}, {"s0:.c0", 4, "."}, {"s0:,c0", 4, ","}, {"s0:c0.c1.c2", 9, "."}, {"s0.s1", 3, "."}, {"s0,s1", 3, ","}, {"-s0", 1, "-"}, {"s0-", 4, ""}, {"s0--s1", 4, "-"}, {"s0-s1-s2", 6, "-"},
		{"s0:c0:c1", 6, ":"}, {"s0 7", 4, "7"}, {"7", 1, "7"}, {"\"s0\"", 1, "s0"}, {"self", 1, "self"}, {"s0:in", 4, "in"}, {"s0;", 3, ";"}, {"{ s0 }", 1, "{"}, {"s0 - \"s1\"", 6, "s1"}, {"s0 \"-\" s1", 4, "-"},
	} {
		partFaults(t, syntax.Range, x.src, x.col, x.name)
		partFaults(t, syntax.Context, "u:r:t:"+x.src, x.col+6, x.name)
	}
	for _, x := range []struct {
		src  string
		col  int
		name string
	}{
		{"", 1, ""}, {"u", 2, ""}, {"u:", 3, ""}, {"u:r", 4, ""}, {"u:r:t", 6, ""}, {"u r t s0", 3, "r"}, {"u::t:s0", 3, ":"}, {":r:t:s0", 1, ":"}, {"u:r:t s0", 7, "s0"}, {"user:r:t:s0", 1, "user"}, {"u:role:t:s0", 3, "role"}, {"u:r:type:s0", 5, "type"}, {"u.r:t:s0", 2, "."}, {"u:\"r\":t:s0", 3, "r"}, {"~u:r:t:s0", 1, "~"}, {"u:*:t:s0", 3, "*"},
	} {
		partFaults(t, syntax.Context, x.src, x.col, x.name)
	}
}

// P7.2: a part with another one behind it, and parts of modules.
func TestOnePart(t *testing.T) {
	constraint := func(src string) (api.Expr, api.Fault) { return syntax.Constraint(src, true) }
	partFaults(t, syntax.Statements, "type a; a", 9, "a")
	partFaults(t, syntax.Statements, "module m 1;", 1, "module")
	partFaults(t, syntax.Names, "{ a } { b }", 7, "{")
	partFaults(t, constraint, "u1 == u2 u1 == u2", 10, "u1")
	partFaults(t, constraint, "u1 == u2;", 9, ";")
	partFaults(t, syntax.Range, "s0 - s1 s2", 9, "s2")
	partFaults(t, syntax.Context, "u:r:t:s0 u:r:t:s0", 10, "u")
}

// compared returns all comparisons, with their sources, for so many contexts.
func compared(contexts int) map[string]api.Expr {
	l := map[string]api.Expr{}
	relations := []string{"==", "!=", "dom", "domby", "incomp"}
	for a := range contexts * 5 {
		left := string("urtlh"[a%5]) + string("123"[a/5])
		for b := range contexts * 5 {
			right := string("urtlh"[b%5]) + string("123"[b/5])
			for rel, word := range relations {
				l[left+" "+word+" "+right] = compare(a, rel, b)
			}
		}
		l[left+" in dom"] = in(a, "dom")
		l[left+" in { u1 }"] = in(a, "u1")
		l[left+" in { b a b }"] = in(a, "b", "a", "b")
	}
	return l
}

func checkConstraint(t *testing.T, src string, validate bool, want api.Expr) {
	t.Helper()
	if e, f := syntax.Constraint(src, validate); f != (api.Fault{}) || !reflect.DeepEqual(e, want) {
		t.Errorf("Constraint(%q): got %v, %v, want %v", src, e, f, want)
	}
}

// P7.2: Constraint of all comparisons; a third context is only for validatetrans.
func TestComparisons(t *testing.T) {
	two, three := compared(2), compared(3)
	for src, e := range two {
		checkConstraint(t, src, false, e)
	}
	for src, e := range three {
		checkConstraint(t, src, true, e)
		if _, ok := two[src]; !ok {
			if _, f := syntax.Constraint(src, false); f.Code != api.ErrSyntax || !strings.HasSuffix(f.Name, "3") {
				t.Errorf("Constraint(%q, false): got %v", src, f)
			}
		}
	}
}

// expressions returns expressions with at most so many levels and their sources, in which each operand stands in parentheses.
func expressions(levels int) map[string]api.Expr {
	l := map[string]api.Expr{"u1 == u2": compare(0, 0, 5), "t1 in a": in(2, "a")}
	if levels == 1 {
		return l
	}
	kids := expressions(levels - 1)
	for s, x := range kids {
		l["! ("+s+")"] = not(x)
		for r, y := range kids {
			l["("+s+") && ("+r+")"] = and(x, y)
			l["("+s+") || ("+r+")"] = or(x, y)
		}
	}
	return l
}

// P7.2: Constraint of expressions with all parentheses.
func TestExpressions(t *testing.T) {
	for src, e := range expressions(3) {
		checkConstraint(t, src, false, e)
		checkConstraint(t, "(("+src+"))", true, e)
	}
}

// P7.1: how operators of constraints bind.
func TestBinding(t *testing.T) {
	a, b, c, d := in(0, "a"), in(0, "b"), in(0, "c"), in(0, "d")
	for src, e := range map[string]api.Expr{
		"a && b && c":                and(and(a, b), c),
		"a || b && c":                or(a, and(b, c)),
		"a && b || c":                or(and(a, b), c),
		"a && b || c && d":           or(and(a, b), and(c, d)),
		"a || b || c":                or(or(a, b), c),
		"a || b && c || d":           or(or(a, and(b, c)), d),
		"! a && b":                   and(not(a), b),
		"! a || ! b":                 or(not(a), not(b)),
		"! ! a && ! ( b || c )":      and(not(not(a)), not(or(b, c))),
		"a && ( b && c )":            and(a, and(b, c)),
		"a || ( b || c )":            or(a, or(b, c)),
		"( a || b ) && c":            and(or(a, b), c),
		"! ( a && b ) || c && ! ! d": or(not(and(a, b)), and(c, not(not(d)))),
	} {
		words := strings.Fields(src)
		for i, w := range words {
			if w >= "a" && w <= "d" {
				words[i] = "u1 in " + w
			}
		}
		checkConstraint(t, strings.Join(words, " "), false, e)
	}
}
