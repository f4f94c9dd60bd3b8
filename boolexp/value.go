package boolexp

import (
	"slices"

	"accesscontrol/api"
)

const wordBits = 64

// table has the values of a condition in several states at once, a bit for each. All tables that are combined are equally long.
type table []uint64

// pair is 64 values of the operands of an operator; ExprNot has x alone.
type pair struct{ x, y uint64 }

func (p pair) not() uint64    { return ^p.x }
func (p pair) and() uint64    { return p.x & p.y }
func (p pair) or() uint64     { return p.x | p.y }
func (p pair) differ() uint64 { return p.x ^ p.y }
func (p pair) same() uint64   { return ^(p.x ^ p.y) }

// operation returns what an operator makes of its operands.
func operation(op int) func(pair) uint64 {
	switch op {
	case api.ExprNot:
		return pair.not
	case api.ExprAnd:
		return pair.and
	case api.ExprOr:
		return pair.or
	case api.ExprSame:
		return pair.same
	}
	return pair.differ // ExprXor and ExprDiffer
}

// Eval returns its value for booleans.
func Eval(e api.Expr, l []api.Bool) (bool, api.Errno) {
	if code := Check(e); code != api.OK {
		return false, code
	}
	columns := map[string]table{}
	for _, b := range l {
		if _, ok := columns[b.Name]; !ok {
			columns[b.Name] = filled(b.Value, 1)
		}
	}
	for _, name := range Names(e) {
		if _, ok := columns[name]; !ok {
			return false, api.ErrNone
		}
	}
	return evaluate(e, columns).always(true), api.OK
}

// Equal reports whether two conditions have the same value for all booleans.
func Equal(a, b api.Expr) (bool, api.Errno) {
	for _, e := range []api.Expr{a, b} {
		if code := Check(e); code != api.OK {
			return false, code
		}
	}
	columns, code := columnsOf(slices.Concat(Names(a), Names(b)))
	if code != api.OK {
		return false, code
	}
	return slices.Equal(evaluate(a, columns), evaluate(b, columns)), api.OK
}

// Constant returns the value of a condition that does not depend on booleans.
func Constant(e api.Expr) (bool, bool) {
	if Check(e) != api.OK {
		return false, false
	}
	columns, code := columnsOf(Names(e))
	if code != api.OK {
		return false, false
	}
	t := evaluate(e, columns)
	value := t.always(true)
	return value, value || t.always(false)
}

// evaluate returns the values of a condition; columns are those of its names.
func evaluate(e api.Expr, columns map[string]table) table {
	if e.Op == api.ExprName {
		return columns[e.Names[0]]
	}
	var operands []table
	for _, kid := range e.Kids {
		operands = append(operands, evaluate(kid, columns))
	}
	return combine(e.Op, operands)
}

// combine returns the values of an operator, for those of its operands.
func combine(op int, operands []table) table {
	do := operation(op)
	x, y := operands[0], operands[len(operands)-1]
	t := make(table, len(x))
	for i := range t {
		t[i] = do(pair{x[i], y[i]})
	}
	return t
}

// columnsOf returns the values of names in all their states: in state n, the name i is true exactly if the bit i of n is 1. The error is ErrLong for more than MaxBools different names.
func columnsOf(names []string) (map[string]table, api.Errno) {
	slices.Sort(names)
	names = slices.Compact(names)
	if len(names) > api.MaxBools {
		return nil, api.ErrLong
	}
	columns := map[string]table{}
	for i, name := range names {
		t := make(table, max(1, 1<<len(names)/wordBits))
		for n := range len(t) * wordBits {
			t[n/wordBits] |= uint64(n>>i&1) << (n % wordBits)
		}
		columns[name] = t
	}
	return columns, api.OK
}

// filled returns a table of so many words with the same value in all states.
func filled(value bool, words int) table {
	t := make(table, words)
	if value {
		for i := range t {
			t[i] = ^t[i]
		}
	}
	return t
}

// always reports whether the value is the same in all states.
func (t table) always(value bool) bool {
	return slices.Equal(t, filled(value, len(t)))
}
