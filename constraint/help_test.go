package constraint_test

import (
	"fmt"
	"testing"

	"accesscontrol/api"
	"accesscontrol/boolexp"
	"accesscontrol/linker"
	"accesscontrol/syntax"
)

// base declares the types a, b (alias d), c, the roles object_r, r1, r2, r3, and the users u and v.
const base = `class file { read write execute }; class dir { read add };
attribute x; attribute y; attribute none;
type a, x; type b alias { d }, x; type c, y;
sensitivity s0; sensitivity s1; category c0; category c1; category c2;
role r1 types { a }; role r2 types x; role r3;
user u roles { r1 r2 } level s0 range s0-s1:c0.c2; user v roles { r3 } level s1:c1 range s1:c1;
`

// small is the source of the examples.
const small = `class process { fork transition dyntransition send };
class file { read write create unlink execute entrypoint relabelfrom relabelto };
sensitivity s0; attribute domain;
type init_t, domain; type user_t, domain; type file_t; type shell_t;
role system types { init_t user_t };
user root roles { system } level s0 range s0;
`

// policy returns the policy of a source.
func policy(t *testing.T, src string) api.Policy {
	t.Helper()
	l, f := syntax.Statements(src)
	if f.Code != api.OK {
		t.Fatalf("Statements(%q): got %v", src, f)
	}
	p, _, f := linker.Link([]api.Module{{Name: "m", Stmts: l}})
	if f.Code != api.OK {
		t.Fatalf("Link of %q: got %v", src, f)
	}
	return p
}

// parsed returns the expression of a source.
func parsed(t *testing.T, src string) api.Expr {
	t.Helper()
	e, f := syntax.Constraint(src, true)
	if f.Code != api.OK {
		t.Fatalf("Constraint(%q): got %v", src, f)
	}
	return e
}

// context returns the context of a text.
func context(t *testing.T, p api.Policy, src string) api.Context {
	t.Helper()
	text, f := syntax.Context(src)
	c, code := linker.Context(p, text)
	if f.Code != api.OK || code != api.OK {
		t.Fatalf("Context(%q): got %v, %v", src, f, code)
	}
	return c
}

func compare(a, rel, b int) api.Expr { return api.Expr{Op: api.ExprCompare, A: a, Rel: rel, B: b} }

func in(a int, s api.Set) api.Expr { return api.Expr{Op: api.ExprIn, A: a, Set: s} }

func named(a int, names ...string) api.Expr { return api.Expr{Op: api.ExprIn, A: a, Names: names} }

func op(op int, kids ...api.Expr) api.Expr { return api.Expr{Op: op, Kids: kids} }

func not(x api.Expr) api.Expr { return op(api.ExprNot, x) }

func and(x, y api.Expr) api.Expr { return op(api.ExprAnd, x, y) }

func or(x, y api.Expr) api.Expr { return op(api.ExprOr, x, y) }

// holds and fails are expressions that are always true, and always false.
func holds() api.Expr { return compare(api.AttrUser, api.RelSame, api.AttrUser) }

func fails() api.Expr { return compare(api.AttrUser, api.RelDiffer, api.AttrUser) }

// nested returns an expression within so many negations.
func nested(e api.Expr, nots int) api.Expr {
	for range nots {
		e = not(e)
	}
	return e
}

// set returns the set of numbers below 64.
func set(l ...int) api.Set {
	var s api.Set
	for _, n := range l {
		s[0] |= 1 << n
	}
	return s
}

// clone returns an expression in memory of its own.
func clone(e api.Expr) api.Expr {
	e.Names = append([]string(nil), e.Names...)
	var kids []api.Expr
	for _, kid := range e.Kids {
		kids = append(kids, clone(kid))
	}
	e.Kids = kids
	return e
}

// scribble changes all memory of an expression.
func scribble(e api.Expr) {
	for i := range e.Names {
		e.Names[i] = "scribbled"
	}
	for i := range e.Kids {
		scribble(e.Kids[i])
		e.Kids[i] = api.Expr{Op: -1}
	}
	_, _ = append(e.Names, "scribbled"), append(e.Kids, api.Expr{Op: -1})
}

// brief writes the beginning of a value.
func brief(x any) string {
	s := fmt.Sprint(x)
	return s[:min(len(s), 500)]
}

// checkExpr checks the results of Compile.
func checkExpr(t *testing.T, what string, got api.Expr, code api.Errno, want api.Expr, wanted api.Errno) {
	t.Helper()
	if code != wanted || !boolexp.Same(got, want) {
		t.Errorf("%s: got %s, %v, want %s, %v", what, brief(got), code, brief(want), wanted)
	}
}

// picker picks numbers below its argument, by a rule that the seed begins.
type picker func(int) int

func newPicker(seed int) picker {
	state := uint32(seed)
	return func(n int) int {
		state = state*1664525 + 1013904223
		return int(state>>16) % n
	}
}

// one picks a number of a list.
func (pick picker) one(l ...int) int { return l[pick(len(l))] }

// expr picks an expression of the policy of base that Check accepts for so many contexts.
func (pick picker) expr(levels, contexts int) api.Expr {
	if levels > 1 && pick(3) > 0 {
		switch pick(3) {
		case 0:
			return not(pick.expr(levels-1, contexts))
		case 1:
			return and(pick.expr(levels-1, contexts), pick.expr(levels-1, contexts))
		}
		return or(pick.expr(levels-1, contexts), pick.expr(levels-1, contexts))
	}
	a, b := api.AttrsOfContext*pick(contexts), api.AttrsOfContext*pick(contexts)
	sort := pick(5)
	switch {
	case sort > api.AttrType:
		return compare(a+api.AttrLow+pick(2), pick(5), b+api.AttrLow+pick(2))
	case pick(2) == 0:
		return compare(a+sort, pick(2), b+sort)
	}
	return in(a+sort, set(pick([]int{2, 4, 3}[sort]), pick([]int{2, 4, 3}[sort])))
}

// junk picks an expression that may have any errors.
func (pick picker) junk(levels, contexts int) api.Expr {
	e := pick.expr(levels, contexts)
	for range pick(3) {
		at := &e
		for len(at.Kids) > 0 && pick(3) > 0 {
			at = &at.Kids[pick(len(at.Kids))]
		}
		switch pick(9) {
		case 0:
			at.Op = pick(12) - 1
		case 1, 2:
			at.A = pick(18) - 1
		case 3:
			at.B = pick(18) - 1
		case 4:
			at.Rel = pick(8) - 1
		case 5:
			at.Names = []string{"a"}
		case 6, 7:
			at.Set = set(pick(6))
		default:
			at.Kids = at.Kids[:pick(len(at.Kids)+1)]
		}
	}
	if pick(20) == 0 {
		e = nested(e, api.MaxNest-pick(4))
	}
	return e
}

// context picks any context.
func (pick picker) context() api.Context {
	level := func() api.Level { return api.Level{Sens: pick(2), Cats: uint64(pick(4))} }
	return api.Context{User: pick(2), Role: pick(4), Type: pick(3), Range: api.Range{Low: level(), High: level()}}
}

// contexts picks a case.
func (pick picker) contexts() api.Case {
	return api.Case{First: pick.context(), Second: pick.context(), Third: pick.context()}
}
