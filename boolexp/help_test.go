package boolexp_test

import (
	"slices"
	"strconv"
	"strings"
	"testing"

	"accesscontrol/api"
	"accesscontrol/boolexp"
)

// keywords are those of the document.
const keywords = "module class type alias typeattribute attribute role types roleallow role_transition user roles level range bool true false sensitivity category allow auditallow dontaudit neverallow type_transition type_change type_member range_transition constrain validatetrans if else optional require sid filecon permissive assert self in"

func name(s string) api.Expr { return api.Expr{Op: api.ExprName, Names: []string{s}} }

func not(x api.Expr) api.Expr { return api.Expr{Op: api.ExprNot, Kids: []api.Expr{x}} }

func binary(op int, x, y api.Expr) api.Expr { return api.Expr{Op: op, Kids: []api.Expr{x, y}} }

func and(x, y api.Expr) api.Expr { return binary(api.ExprAnd, x, y) }

func or(x, y api.Expr) api.Expr { return binary(api.ExprOr, x, y) }

func xor(x, y api.Expr) api.Expr { return binary(api.ExprXor, x, y) }

func same(x, y api.Expr) api.Expr { return binary(api.ExprSame, x, y) }

func differ(x, y api.Expr) api.Expr { return binary(api.ExprDiffer, x, y) }

func binaries() []int {
	return []int{api.ExprAnd, api.ExprOr, api.ExprXor, api.ExprSame, api.ExprDiffer}
}

// allOf returns all conditions with at most so many levels over some names.
func allOf(levels int, names ...string) []api.Expr {
	var l []api.Expr
	for _, s := range names {
		l = append(l, name(s))
	}
	if levels == 1 {
		return l
	}
	kids := allOf(levels-1, names...)
	for _, x := range kids {
		l = append(l, not(x))
	}
	for _, op := range binaries() {
		for _, x := range kids {
			for _, y := range kids {
				l = append(l, binary(op, x, y))
			}
		}
	}
	return l
}

// picker returns a function that picks numbers below its argument, by a rule that the seed begins.
func picker(seed int) func(int) int {
	state := uint32(seed)
	return func(n int) int {
		state = state*1664525 + 1013904223
		return int(state>>16) % n
	}
}

// picked returns a condition with at most so many levels over some names.
func picked(pick func(int) int, levels int, names []string) api.Expr {
	kind := pick(8)
	switch {
	case levels == 1 || kind == 0:
		return name(names[pick(len(names))])
	case kind == 1:
		return not(picked(pick, levels-1, names))
	}
	op := binaries()[pick(5)]
	return binary(op, picked(pick, levels-1, names), picked(pick, levels-1, names))
}

// samples are conditions of many shapes.
func samples() []api.Expr {
	l := allOf(3, "a", "b")
	for seed := range 400 {
		pick := picker(seed)
		l = append(l, picked(pick, 2+pick(5), []string{"a", "b", "c", "d"}[:1+pick(4)]))
	}
	return append(l, chain(11), tree(api.ExprOr, 7, numbered("b", 16)), tree(api.ExprSame, 5, numbered("b", 16)))
}

// chain returns the name a behind so many nots.
func chain(nots int) api.Expr {
	e := name("a")
	for range nots {
		e = not(e)
	}
	return e
}

// tree returns the condition with so many levels in which all operators are the same one; its names are these, again and again.
func tree(op, levels int, names []string) api.Expr {
	next := 0
	var grow func(level int) api.Expr
	grow = func(level int) api.Expr {
		if level == levels {
			next++
			return name(names[(next-1)%len(names)])
		}
		x := grow(level + 1)
		return binary(op, x, grow(level+1))
	}
	return grow(1)
}

// numbered returns the names p0, p1 ..
func numbered(p string, n int) []string {
	var l []string
	for i := range n {
		l = append(l, p+strconv.Itoa(i))
	}
	return l
}

// value is the definition of the value of a condition.
func value(e api.Expr, state map[string]bool) bool {
	var x, y bool
	if len(e.Kids) > 0 {
		x, y = value(e.Kids[0], state), value(e.Kids[len(e.Kids)-1], state)
	}
	switch e.Op {
	case api.ExprName:
		return state[e.Names[0]]
	case api.ExprNot:
		return !x
	case api.ExprAnd:
		return x && y
	case api.ExprOr:
		return x || y
	case api.ExprSame:
		return x == y
	}
	return x != y
}

// levels returns the number of levels.
func levels(e api.Expr) int {
	most := 0
	for _, kid := range e.Kids {
		most = max(most, levels(kid))
	}
	return most + 1
}

// namesOf returns the names in an expression, each once, sorted.
func namesOf(l ...api.Expr) []string {
	seen := map[string]bool{}
	var visit func(e api.Expr)
	visit = func(e api.Expr) {
		for _, s := range e.Names {
			seen[s] = true
		}
		for _, kid := range e.Kids {
			visit(kid)
		}
	}
	for _, e := range l {
		visit(e)
	}
	var names []string
	for s := range seen {
		names = append(names, s)
	}
	slices.Sort(names)
	return names
}

// states returns all states of some names.
func states(names []string) []map[string]bool {
	var l []map[string]bool
	for n := range 1 << len(names) {
		state := map[string]bool{}
		for i, s := range names {
			state[s] = n>>i&1 == 1
		}
		l = append(l, state)
	}
	return l
}

// show writes an expression with all that it has.
func show(e api.Expr) string {
	var kids []string
	for _, kid := range e.Kids {
		kids = append(kids, show(kid))
	}
	return strconv.Itoa(e.Op) + "{" + strings.Join(e.Names, " ") + strings.Join(kids, ", ") + "}"
}

// equalExpr reports whether two expressions have the same fields, at each level.
func equalExpr(a, b api.Expr) bool {
	if a.Op != b.Op || a.A != b.A || a.B != b.B || a.Rel != b.Rel || a.Set != b.Set || !slices.Equal(a.Names, b.Names) || len(a.Kids) != len(b.Kids) {
		return false
	}
	for i := range a.Kids {
		if !equalExpr(a.Kids[i], b.Kids[i]) {
			return false
		}
	}
	return true
}

// checkMemory checks that no two slices of a result are the same memory, and that none is memory of an argument.
func checkMemory(t *testing.T, result api.Expr, arguments ...api.Expr) {
	t.Helper()
	names, kids := map[*string]bool{}, map[*api.Expr]bool{}
	for _, e := range arguments {
		visitSlices(e, names, kids, func() {})
	}
	visitSlices(result, names, kids, func() { t.Errorf("%s shares memory", show(result)) })
}

// visitSlices adds the memory of an expression to maps, and calls twice for what is in them already.
func visitSlices(e api.Expr, names map[*string]bool, kids map[*api.Expr]bool, twice func()) {
	for i := range e.Names {
		if names[&e.Names[i]] {
			twice()
		}
		names[&e.Names[i]] = true
	}
	for i := range e.Kids {
		if kids[&e.Kids[i]] {
			twice()
		}
		kids[&e.Kids[i]] = true
		visitSlices(e.Kids[i], names, kids, twice)
	}
}

// parsed returns the condition that a text denotes.
func parsed(t *testing.T, s string) api.Expr {
	t.Helper()
	e, f := boolexp.Parse(s)
	if f != (api.Fault{}) {
		t.Fatalf("Parse(%q): got %v", s, f)
	}
	return e
}

// wrong are expressions that are not conditions, each with its error.
func wrong() []struct {
	e    api.Expr
	code api.Errno
} {
	a, b := name("a"), name("b")
	type row = struct {
		e    api.Expr
		code api.Errno
	}
	l := []row{
		{api.Expr{}, api.ErrArg},
		{api.Expr{Op: -1, Names: []string{"a"}}, api.ErrArg},
		{api.Expr{Op: api.ExprCompare}, api.ErrArg},
		{api.Expr{Op: api.ExprIn, Names: []string{"a"}}, api.ErrArg},
		{api.Expr{Op: api.ExprDiffer + 1, Kids: []api.Expr{a, b}}, api.ErrArg},
		{api.Expr{Op: 1 << 40, Kids: []api.Expr{a}}, api.ErrArg},
		{api.Expr{Op: api.ExprName}, api.ErrArg},
		{api.Expr{Op: api.ExprName, Names: []string{"a", "b"}}, api.ErrArg},
		{api.Expr{Op: api.ExprName, Names: []string{"a"}, Kids: []api.Expr{b}}, api.ErrArg},
		{api.Expr{Op: api.ExprName, Names: []string{"if"}, Kids: []api.Expr{b}}, api.ErrArg},
		{api.Expr{Op: api.ExprName, Names: []string{"if"}, A: 1}, api.ErrArg},
		{api.Expr{Op: api.ExprName, Names: []string{""}, Set: api.Set{0, 0, 0, 1}}, api.ErrArg},
		{api.Expr{Op: api.ExprName, Kids: []api.Expr{b}}, api.ErrArg},
		{api.Expr{Op: api.ExprNot}, api.ErrArg},
		{api.Expr{Op: api.ExprNot, Names: []string{"a"}}, api.ErrArg},
		{api.Expr{Op: api.ExprNot, Names: []string{"a"}, Kids: []api.Expr{a}}, api.ErrArg},
		{api.Expr{Op: api.ExprNot, Kids: []api.Expr{a, b}}, api.ErrArg},
		{api.Expr{Op: api.ExprAnd, Kids: make([]api.Expr, 1<<16)}, api.ErrArg},
	}
	for _, op := range binaries() {
		l = append(l, row{api.Expr{Op: op}, api.ErrArg}, row{api.Expr{Op: op, Names: []string{"a", "b"}}, api.ErrArg}, row{api.Expr{Op: op, Kids: []api.Expr{a}}, api.ErrArg},
			row{api.Expr{Op: op, Kids: []api.Expr{a, b, a}}, api.ErrArg}, row{api.Expr{Op: op, Names: []string{"a"}, Kids: []api.Expr{a, b}}, api.ErrArg})
	}
	for _, e := range []api.Expr{a, not(a), and(a, b), or(a, b), xor(a, b), same(a, b), differ(a, b)} {
		for i := range 4 {
			x := e
			*[]*int{&x.A, &x.Rel, &x.B, &x.Op}[i] += 1 << 20
			l = append(l, row{x, api.ErrArg})
		}
		for i := range 4 {
			x := e
			x.Set[i] = 1 << 63
			l = append(l, row{x, api.ErrArg})
		}
	}
	for _, s := range append(strings.Fields(keywords), "", "1", "1a", "a-b", "a b", " a", "a ", "a\n", "é", "a\x00", "!", strings.Repeat("n", api.MaxName+1)) {
		l = append(l, row{name(s), api.ErrName})
	}
	return append(l, row{chain(12), api.ErrLong}, row{chain(1000), api.ErrLong}, row{chain(1 << 16), api.ErrLong}, row{tree(api.ExprXor, 13, []string{"a"}), api.ErrLong})
}
