package condition_test

import (
	"fmt"
	"slices"
	"strconv"
	"testing"

	"accesscontrol/api"
	"accesscontrol/boolexp"
	"accesscontrol/linker"
)

func number(n int) api.Expr { return api.Expr{Op: api.ExprName, A: n} }

func name(s string) api.Expr { return api.Expr{Op: api.ExprName, Names: []string{s}} }

func op(op int, kids ...api.Expr) api.Expr { return api.Expr{Op: op, Kids: kids} }

func not(x api.Expr) api.Expr { return op(api.ExprNot, x) }

func and(x, y api.Expr) api.Expr { return op(api.ExprAnd, x, y) }

func or(x, y api.Expr) api.Expr { return op(api.ExprOr, x, y) }

func binaries() []int {
	return []int{api.ExprAnd, api.ExprOr, api.ExprXor, api.ExprSame, api.ExprDiffer}
}

// nested returns an expression within so many negations.
func nested(e api.Expr, nots int) api.Expr {
	for range nots {
		e = not(e)
	}
	return e
}

// policy returns a valid policy with so many booleans, b0, b1 .., of which those with the bits of values are true, and with conditions.
func policy(t *testing.T, bools, values int, conds ...api.Expr) api.Policy {
	t.Helper()
	p := api.Policy{
		Classes: []api.Class{{Name: "file", Perms: []string{"read"}}},
		Types:   []api.Type{{Name: "a"}},
		Roles:   []api.Role{{Name: api.ObjectRole}},
		Conds:   conds,
	}
	for i := range bools {
		p.Bools = append(p.Bools, api.Bool{Name: "b" + strconv.Itoa(i), Value: values>>i&1 == 1})
	}
	if code := linker.Check(p); code != api.OK {
		t.Fatalf("the policy is not valid: %v", code)
	}
	return p
}

// ab is the policy of the example.
func ab() api.Policy {
	return api.Policy{Bools: []api.Bool{{Name: "a"}, {Name: "b", Value: true}}, Roles: []api.Role{{Name: api.ObjectRole}}, Conds: []api.Expr{and(number(0), not(number(1)))}}
}

// model is the definition of the value of a condition in a state that is long enough.
func model(e api.Expr, state []bool) bool {
	var l []bool
	for _, kid := range e.Kids {
		l = append(l, model(kid, state))
	}
	switch e.Op {
	case api.ExprName:
		return state[e.A]
	case api.ExprNot:
		return !l[0]
	case api.ExprAnd:
		return l[0] && l[1]
	case api.ExprOr:
		return l[0] || l[1]
	case api.ExprSame:
		return l[0] == l[1]
	}
	return l[0] != l[1]
}

// bits returns the state that has bits as values.
func bits(bools, n int) []bool {
	state := make([]bool, bools)
	for i := range state {
		state[i] = n&(1<<i) != 0
	}
	return state
}

// brief writes the beginning of a value.
func brief(x any) string {
	s := fmt.Sprint(x)
	return s[:min(len(s), 500)]
}

func checkList[T comparable](t *testing.T, what string, got, want []T) {
	t.Helper()
	if !slices.Equal(got, want) {
		t.Errorf("%s: got %s, want %s", what, brief(got), brief(want))
	}
}

func checkExpr(t *testing.T, what string, got, want api.Expr) {
	t.Helper()
	if !boolexp.Same(got, want) {
		t.Errorf("%s: got %s, want %s", what, brief(got), brief(want))
	}
}

// clone returns an expression in memory of its own.
func clone(e api.Expr) api.Expr {
	e.Names = append([]string(nil), e.Names...)
	var kids []api.Expr
	for _, kid := range e.Kids {
		kids = append(kids, clone(kid))
	}
	e.Kids = kids
	return e
}

// scribble changes all memory of an expression.
func scribble(e api.Expr) {
	for i := range e.Names {
		e.Names[i] = "scribbled"
	}
	for i := range e.Kids {
		scribble(e.Kids[i])
		e.Kids[i] = api.Expr{Op: -1}
	}
	_, _ = append(e.Names, "scribbled"), append(e.Kids, api.Expr{Op: -1})
}

// picker picks numbers below its argument, by a rule that the seed begins.
type picker func(int) int

func newPicker(seed int) picker {
	state := uint32(seed)
	return func(n int) int {
		state = state*1664525 + 1013904223
		return int(state>>16) % n
	}
}

// cond picks a condition over so many booleans.
func (pick picker) cond(levels, bools int) api.Expr {
	if levels == 1 || pick(4) == 0 {
		return number(pick(bools))
	}
	if pick(4) == 0 {
		return not(pick.cond(levels-1, bools))
	}
	return op(binaries()[pick(5)], pick.cond(levels-1, bools), pick.cond(levels-1, bools))
}

// policy picks a valid policy with booleans and conditions.
func (pick picker) policy(t *testing.T) api.Policy {
	t.Helper()
	bools := 1 + pick(6)
	var conds []api.Expr
	for range pick(6) {
		conds = append(conds, pick.cond(5, bools))
	}
	return policy(t, bools, pick(64), conds...)
}

// state picks a state that may be too short or too long for a policy, and returns it also with the right length.
func (pick picker) state(p api.Policy) ([]bool, []bool) {
	state := bits(pick(len(p.Bools)+3), pick(256))
	full := make([]bool, len(p.Bools))
	copy(full, state)
	return state, full
}
