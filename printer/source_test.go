package printer_test

import (
	"reflect"
	"strconv"
	"strings"
	"testing"

	"accesscontrol/api"
	"accesscontrol/printer"
	"accesscontrol/syntax"
)

// P8.2: the sources of statements of all kinds, at all levels, with any position.
func TestStatement(t *testing.T) {
	for _, x := range samples() {
		for levels := range api.MaxNest + 1 {
			checkStatement(t, x.s, levels, indented(x.src, levels), api.OK)
		}
		for _, levels := range []int{-1, api.MaxNest + 1, -1 << 62, 1 << 62} {
			checkStatement(t, x.s, levels, "", api.ErrArg)
		}
		x.s.Pos = api.Pos{Line: -3, Col: 1 << 40}
		checkStatement(t, x.s, 0, x.src, api.OK)
	}
}

// P8.2: the source of a module.
func TestModule(t *testing.T) {
	checkModule(t, api.Module{Name: "m"}, "module m 0;\n", api.OK)
	checkModule(t, api.Module{Name: "any", Version: 9999, Stmts: []api.Stmt{}}, "module any 9999;\n", api.OK)
	want := "module m 10;\n"
	m := api.Module{Name: "m", Version: 10}
	for _, x := range samples() {
		m.Stmts = append(m.Stmts, x.s)
		want += x.src + "\n"
		checkModule(t, m, want, api.OK)
	}
}

// P8.2: a source has at most MaxSource bytes.
func TestMaxSource(t *testing.T) {
	s := api.Stmt{Kind: api.StmtClass, Name: "c"}
	src := "class c {"
	for range (api.MaxSource - 14) / 2 {
		s.List = append(s.List, "p")
		src += " p"
	}
	src += " };"
	s.Name += strings.Repeat("c", api.MaxSource-len(src))
	src = "class " + s.Name + src[len("class c"):]
	checkStatement(t, s, 0, src, api.OK)
	checkStatement(t, s, 1, "", api.ErrLong)
	checkModule(t, api.Module{Name: "m", Stmts: []api.Stmt{s}}, "", api.ErrLong)
	s.List = s.List[7:] // fourteen bytes less; header and line feed have twelve and one
	src = strings.Replace(src, " p p p p p p p", "", 1)
	checkModule(t, api.Module{Name: "mm", Stmts: []api.Stmt{s}}, "module mm 0;\n"+src+"\n", api.OK)
	checkModule(t, api.Module{Name: "mmm", Stmts: []api.Stmt{s}}, "", api.ErrLong)
	s.Name += "c"
	checkModule(t, api.Module{Name: "mm", Stmts: []api.Stmt{s}}, "", api.ErrLong)
	if code := printer.Check(api.Module{Name: "mm", Stmts: []api.Stmt{s}}); code != api.OK {
		t.Errorf("Check of a module with a long source: got %v", code)
	}
}

// P8.3: sets of names of all forms with up to two names and two exceptions.
func TestNames(t *testing.T) {
	lists := [][]string{nil, {}, {"a"}, {"self_"}, {"a", "b"}, {"b", "b"}}
	for bits := range 8 {
		for _, included := range lists {
			for _, excluded := range lists {
				checkNames(t, api.NameSet{All: bits&1 != 0, Self: bits&2 != 0, Not: bits&4 != 0, Names: included, Except: excluded})
			}
		}
	}
	for _, x := range []struct {
		n    api.NameSet
		want string
	}{
		{names("a"), "a"}, {api.NameSet{All: true}, "*"}, {api.NameSet{Self: true}, "self"}, {names("a", "b"), "{ a b }"}, {api.NameSet{Except: []string{"a"}}, "{ - a }"}, {api.NameSet{Not: true, Except: []string{"a"}}, "~ { - a }"},
		{api.NameSet{Not: true, Names: []string{"a"}}, "~ a"}, {api.NameSet{Not: true, Names: []string{"a", "b"}}, "~ { a b }"}, {api.NameSet{Not: true, All: true}, "~ { * }"}, {api.NameSet{Not: true, Self: true}, "~ { self }"},
		{api.NameSet{All: true, Self: true}, "{ * self }"}, {api.NameSet{All: true, Names: []string{"a"}}, "{ * a }"}, {api.NameSet{Self: true, Names: []string{"a"}, Except: []string{"b", "c"}}, "{ a - b - c self }"},
	} {
		if s, code := printer.Names(x.n); s != x.want || code != api.OK {
			t.Errorf("Names(%v): got %q, %v, want %q", x.n, s, code, x.want)
		}
	}
}

// checkNames checks the source of a set of names.
func checkNames(t *testing.T, n api.NameSet) {
	t.Helper()
	var l []string
	if n.All {
		l = append(l, "*")
	}
	l = append(l, n.Names...)
	for _, s := range n.Except {
		l = append(l, "- "+s)
	}
	if n.Self {
		l = append(l, "self")
	}
	want := "{ " + strings.Join(l, " ") + " }"
	if len(l) == 1 && len(n.Except) == 0 && (!n.Not || len(n.Names) == 1) {
		want = l[0]
	}
	if n.Not {
		want = "~ " + want
	}
	code := api.OK
	if len(l) == 0 {
		want, code = "", api.ErrArg
	}
	got, c := printer.Names(n)
	if got != want || c != code {
		t.Errorf("Names(%v): got %q, %v, want %q, %v", n, got, c, want, code)
	}
	if code != api.OK {
		return
	}
	back, f := syntax.Names(got)
	rule := func(n api.NameSet) []api.Stmt { return []api.Stmt{{Kind: api.StmtRule, Target: n}} }
	if f != (api.Fault{}) || !printer.SameStatements(rule(back), rule(n)) {
		t.Errorf("syntax.Names(%q): got %v, %v, want %v", got, back, f, n)
	}
}

// P8.3: ranges and contexts.
func TestRangeAndContext(t *testing.T) {
	levels := map[string]api.LevelText{
		"s0":             sens("s0"),
		"s1:c0":          {Sens: "s1", Cats: []api.Span{{From: "c0"}}},
		"dom:c0.c0":      {Sens: "dom", Cats: []api.Span{{From: "c0", To: "c0"}}},
		"s0:c2.c0,c1,c1": {Sens: "s0", Cats: []api.Span{{From: "c2", To: "c0"}, {From: "c1"}, {From: "c1"}}},
		"s0:c1,c2.c3":    {Sens: "s0", Cats: []api.Span{{From: "c1"}, {From: "c2", To: "c3"}}},
	}
	check := func(want string, r api.RangeText) {
		t.Helper()
		if s, code := printer.Range(r); s != want || code != api.OK {
			t.Errorf("Range(%v): got %q, %v, want %q", r, s, code, want)
		}
		c := api.ContextText{User: "u", Role: "r", Type: "link", Range: r}
		if s, code := printer.Context(c); s != "u:r:link:"+want || code != api.OK {
			t.Errorf("Context(%v): got %q, %v, want %q", c, s, code, "u:r:link:"+want)
		}
		back, f := syntax.Context("u:r:link:" + want)
		if f != (api.Fault{}) || !printer.SameStatements([]api.Stmt{{Context: back}}, []api.Stmt{{Context: c}}) {
			t.Errorf("syntax.Context of %q: got %v, %v, want %v", want, back, f, c)
		}
	}
	for low, l := range levels {
		check(low, api.RangeText{Low: l})
		check(low, api.RangeText{Low: l, High: api.LevelText{Cats: []api.Span{}}})
		for high, h := range levels {
			check(low+"-"+high, api.RangeText{Low: l, High: h})
		}
	}
}

// expressions returns expressions with at most so many levels.
func expressions(levels int) []api.Expr {
	l := []api.Expr{compare(0, 0, 5), in(2, "a", "b")}
	if levels == 1 {
		return l
	}
	kids := expressions(levels - 1)
	for _, x := range kids {
		l = append(l, not(x))
		for _, y := range kids {
			l = append(l, and(x, y), or(x, y))
		}
	}
	return l
}

// expected is the definition of the source of a constraint's expression.
func expected(e api.Expr) string {
	attribute := func(n int) string { return string("urtlh"[n%5]) + strconv.Itoa(n/5+1) }
	operand := func(x api.Expr, parentheses bool) string {
		if parentheses {
			return "(" + expected(x) + ")"
		}
		return expected(x)
	}
	switch e.Op {
	case api.ExprCompare:
		return attribute(e.A) + " " + strings.Fields("== != dom domby incomp")[e.Rel] + " " + attribute(e.B)
	case api.ExprIn:
		if len(e.Names) == 1 {
			return attribute(e.A) + " in " + e.Names[0]
		}
		return attribute(e.A) + " in { " + strings.Join(e.Names, " ") + " }"
	case api.ExprNot:
		return "!" + operand(e.Kids[0], e.Kids[0].Op != api.ExprNot)
	case api.ExprAnd:
		return operand(e.Kids[0], e.Kids[0].Op == api.ExprOr) + " && " + operand(e.Kids[1], e.Kids[1].Op == api.ExprOr || e.Kids[1].Op == api.ExprAnd)
	}
	return expected(e.Kids[0]) + " || " + operand(e.Kids[1], e.Kids[1].Op == api.ExprOr)
}

func checkConstraint(t *testing.T, e api.Expr, validate bool) {
	t.Helper()
	s, code := printer.Constraint(e, validate)
	if s != expected(e) || code != api.OK {
		t.Errorf("Constraint(%v): got %q, %v, want %q", e, s, code, expected(e))
	}
	if back, f := syntax.Constraint(s, validate); f != (api.Fault{}) || !reflect.DeepEqual(back, e) {
		t.Errorf("syntax.Constraint(%q): got %v, %v, want %v", s, back, f, e)
	}
}

// P8.3: expressions of constraints, with as many parentheses as the chapter says; they are parsed as they were.
func TestConstraint(t *testing.T) {
	for _, e := range expressions(3) {
		checkConstraint(t, e, false)
		checkConstraint(t, e, true)
	}
	for a := range 15 {
		for b := range 15 {
			for rel := range 5 {
				checkConstraint(t, compare(a, rel, b), true)
				if a < 10 && b < 10 {
					checkConstraint(t, compare(a, rel, b), false)
				} else if s, code := printer.Constraint(compare(a, rel, b), false); s != "" || code != api.ErrArg {
					t.Errorf("Constraint of the attributes %d and %d: got %q, %v", a, b, s, code)
				}
			}
		}
		checkConstraint(t, in(a, "dom"), true)
		checkConstraint(t, not(not(in(a, "b", "a", "b"))), true)
	}
	x, y, z := in(0, "x"), in(0, "y"), in(0, "z")
	for _, c := range []struct {
		e    api.Expr
		want string
	}{
		{not(x), "!(u1 in x)"}, {not(not(x)), "!!(u1 in x)"}, {not(and(x, y)), "!(u1 in x && u1 in y)"}, {and(not(x), y), "!(u1 in x) && u1 in y"},
		{and(and(x, y), z), "u1 in x && u1 in y && u1 in z"}, {and(x, and(y, z)), "u1 in x && (u1 in y && u1 in z)"}, {or(or(x, y), z), "u1 in x || u1 in y || u1 in z"}, {or(x, or(y, z)), "u1 in x || (u1 in y || u1 in z)"},
		{and(or(x, y), z), "(u1 in x || u1 in y) && u1 in z"}, {and(x, or(y, z)), "u1 in x && (u1 in y || u1 in z)"}, {or(and(x, y), z), "u1 in x && u1 in y || u1 in z"}, {or(x, and(y, z)), "u1 in x || u1 in y && u1 in z"},
	} {
		if s, code := printer.Constraint(c.e, false); s != c.want || code != api.OK {
			t.Errorf("Constraint(%v): got %q, %v, want %q", c.e, s, code, c.want)
		}
	}
}

// P8.3: expressions with MaxNest levels.
func TestConstraintLevels(t *testing.T) {
	nots, left, right := in(0, "a"), in(0, "a"), in(0, "a")
	for level := 2; level <= api.MaxNest+2; level++ {
		nots, left, right = not(nots), and(left, in(1, "b")), or(in(1, "b"), right)
		for _, e := range []api.Expr{nots, left, right} {
			if level <= api.MaxNest {
				checkConstraint(t, e, false)
			} else if s, code := printer.Constraint(e, true); s != "" || code != api.ErrArg {
				t.Errorf("Constraint with %d levels: got %q, %v", level, s, code)
			}
		}
	}
}
