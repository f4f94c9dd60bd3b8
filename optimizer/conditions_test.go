package optimizer_test

import (
	"testing"

	"accesscontrol/api"
	"accesscontrol/optimizer"
)

// checkConditions checks the result of Conditions for rules with these Conds: their new Conds (gone: the rule is removed), and the conditions.
func checkConditions(t *testing.T, conds []api.Expr, before, after []int, kept ...api.Expr) {
	t.Helper()
	p, want := policy(conds...), policy(kept...)
	targets := []string{"a", "b", "c", "d", "ab", "ac", "ad", "bc", "bd", "cd", "abc", "abd", "acd", "bcd", "abcd"}
	for i, cond := range before {
		r, tr := allow("a", targets[i], "r", cond), api.Trans{Kind: api.TransChange, Source: set("a"), Target: set(targets[i]), Cond: cond}
		p.Rules, p.Trans = append(p.Rules, r), append(p.Trans, tr)
		if after[i] != gone {
			r.Cond, tr.Cond = after[i], after[i]
			want.Rules, want.Trans = append(want.Rules, r), append(want.Trans, tr)
		}
	}
	checkValid(t, p)
	// Rules alone, transitions alone, and both.
	for _, which := range []string{"rules", "transitions", "both"} {
		p, want := p, want
		if which == "rules" {
			p.Trans, want.Trans = nil, nil
		} else if which == "transitions" {
			p.Rules, want.Rules = nil, nil
		}
		if got := optimizer.Conditions(p); !same(got, want) {
			t.Errorf("%s with %v of %v: got %v, %v, %v", which, before, conds, got.Rules, got.Trans, got.Conds)
		}
	}
}

// gone is the Cond of what is removed.
const gone = 1000

// P24.4: constant conditions.
func TestConstantConditions(t *testing.T) {
	checkConditions(t, nil, []int{0}, []int{0})
	checkConditions(t, xyz(), []int{always, -always, never, -never, 0}, []int{0, gone, gone, 0, 0})
	checkConditions(t, xyz(), []int{z, always, -never, -z, never}, []int{1, 0, 0, -1, gone}, number(2))
	same := op(api.ExprSame, number(0), number(0))
	checkConditions(t, []api.Expr{number(1), same, not(same), op(api.ExprXor, same, number(1))}, []int{1, 2, 3, 4, -2, -3, -4}, []int{1, 0, gone, -1, gone, 0, 1}, number(1))
}

// P24.4: conditions that nothing has.
func TestUnusedConditions(t *testing.T) {
	checkConditions(t, xyz(), nil, nil)
	checkConditions(t, xyz(), []int{0, 0}, []int{0, 0})
	checkConditions(t, xyz(), []int{xSameY, -y, z}, []int{3, -1, 2}, number(1), number(2), op(api.ExprSame, number(0), number(1)))
	// A condition that is not used replaces none.
	checkConditions(t, []api.Expr{not(number(0)), number(0), not(not(number(0)))}, []int{2, 3}, []int{1, 1}, number(0))
	checkConditions(t, []api.Expr{number(0), not(number(0)), not(not(number(0)))}, []int{3, 2, -3}, []int{-1, 1, 1}, not(number(0)))
}

// P24.4: conditions with the values of one that was kept, or of its negation.
func TestEqualConditions(t *testing.T) {
	x, y, z := number(0), number(1), number(2)
	checkConditions(t, []api.Expr{x, x, not(x), not(not(x))}, []int{4, 3, 2, 1, -1, -2, -3, -4}, []int{1, -1, 1, 1, -1, -1, 1, -1}, x)
	checkConditions(t, []api.Expr{not(x), y, x, not(y), z}, []int{1, 2, 3, 4, 5, -4}, []int{1, 2, -1, -2, 3, 2}, not(x), y, z)
	checkConditions(t, []api.Expr{and(x, y), op(api.ExprXor, x, y), or(not(y), not(x)), op(api.ExprSame, y, x), op(api.ExprDiffer, y, x), and(y, x)},
		[]int{1, 2, 3, 4, 5, 6, -3}, []int{1, 2, -1, -2, 2, 1, 1}, and(x, y), op(api.ExprXor, x, y))
	checkConditions(t, []api.Expr{x, y, and(x, y), or(x, y)}, []int{1, 2, 3, 4}, []int{1, 2, 3, 4}, x, y, and(x, y), or(x, y))
}

// P24.4: as many booleans, levels and conditions as there may be.
func TestFullConditions(t *testing.T) {
	p := full()
	var names, nots []api.Expr
	for i := range api.MaxBools {
		names, nots = append(names, number(i)), append(nots, not(number(i)))
	}
	chain := number(0)
	for i := range api.MaxNest - 1 {
		chain = and(chain, number(i+1))
	}
	p.Conds = []api.Expr{
		joinedBy(api.ExprAnd, names...), joinedBy(api.ExprAnd, names[:15]...), joinedBy(api.ExprOr, nots...), // the first two differ in one state
		chain, joinedBy(api.ExprOr, nots[:api.MaxNest]...), joinedBy(api.ExprAnd, names[:api.MaxNest]...), // the negation of chain would have too many levels
		joinedBy(api.ExprXor, names...), joinedBy(api.ExprSame, names...), number(15), number(6), number(5),
	}
	for len(p.Conds) < api.MaxConds {
		p.Conds = append(p.Conds, or(number(len(p.Conds)%16), not(number(len(p.Conds)%16))))
	}
	for i := range p.Conds {
		p.Rules = append(p.Rules, api.Rule{Kind: api.RuleAllow, Source: set("a"), Target: set("b"), Class: i % 32, Perms: 1, Cond: i + 1})
	}
	checkValid(t, p)
	got := optimizer.Conditions(p)
	want := []int{1, 2, -1, 3, -3, 3, 4, -4, 5, 6, 7}
	for i, r := range got.Rules {
		cond := 0
		if i < len(want) {
			cond = want[i]
		}
		if r.Cond != cond {
			t.Errorf("the condition %d: got %d, want %d", i, r.Cond, cond)
		}
	}
	if len(got.Rules) != api.MaxConds || !same(got.Conds, []api.Expr{p.Conds[0], p.Conds[1], p.Conds[3], p.Conds[6], p.Conds[8], p.Conds[9], p.Conds[10]}) {
		t.Errorf("got %s", brief(got.Conds))
	}
	if !optimizer.Same(p, got) {
		t.Error("the meaning is another one")
	}
}
