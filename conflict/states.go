package conflict

import (
	"accesscontrol/api"
)

const wordBits = 64

// patterns are the values of the first booleans in the states of a word.
var patterns = [6]uint64{0xaaaaaaaaaaaaaaaa, 0xcccccccccccccccc, 0xf0f0f0f0f0f0f0f0, 0xff00ff00ff00ff00, 0xffff0000ffff0000, 0xffffffff00000000}

// states knows in which states of the booleans of a policy the conditions have which values. The state n has the bit i of n as the value of the boolean i; a word has a bit for each of 64 states.
type states struct {
	bools  int
	conds  []api.Expr
	active map[int][]uint64 // by Cond, for those that were asked for
}

func newStates(p api.Policy) *states {
	return &states{min(len(p.Bools), api.MaxBools), p.Conds, map[int][]uint64{}}
}

// compatible reports whether there is a state in which both Conds are active. One of a condition that does not exist never is.
func (s *states) compatible(a, b int) bool {
	if !s.has(a) || !s.has(b) {
		return false
	}
	other := s.of(b)
	for i, word := range s.of(a) {
		if word&other[i] != 0 {
			return true
		}
	}
	return false
}

func (s *states) has(cond int) bool { return -len(s.conds) <= cond && cond <= len(s.conds) }

// of returns the states in which a Cond is active.
func (s *states) of(cond int) []uint64 {
	if l, found := s.active[cond]; found {
		return l
	}
	l := make([]uint64, max(1, 1<<s.bools/wordBits))
	for i := range l {
		l[i] = s.word(cond, i)
	}
	s.active[cond] = l
	return l
}

// word returns those of a word of states in which a Cond is active.
func (s *states) word(cond, i int) uint64 {
	switch {
	case cond > 0:
		return s.value(&s.conds[cond-1], i, api.MaxNest)
	case cond < 0:
		return ^s.value(&s.conds[-cond-1], i, api.MaxNest)
	}
	return ^uint64(0)
}

// value returns those of a word of states in which an expression of at most so many levels is true. What is no condition is false.
func (s *states) value(e *api.Expr, i, levels int) uint64 {
	if levels == 0 || len(e.Kids) != operands(e.Op) {
		return 0
	}
	var x, y uint64
	if len(e.Kids) > 0 {
		x = s.value(&e.Kids[0], i, levels-1)
	}
	if len(e.Kids) > 1 {
		y = s.value(&e.Kids[1], i, levels-1)
	}
	switch e.Op {
	case api.ExprName:
		return s.boolean(e.A, i)
	case api.ExprNot:
		return ^x
	case api.ExprAnd:
		return x & y
	case api.ExprOr:
		return x | y
	case api.ExprXor, api.ExprDiffer:
		return x ^ y
	case api.ExprSame:
		return ^(x ^ y)
	}
	return 0
}

// operands returns how many operands an operator of conditions has.
func operands(op int) int {
	switch op {
	case api.ExprName:
		return 0
	case api.ExprNot:
		return 1
	}
	return 2
}

// boolean returns those of a word of states in which a boolean is true. The first six have the same values in each word, the others one value in a word.
func (s *states) boolean(n, i int) uint64 {
	switch {
	case n < 0 || n >= s.bools:
		return 0
	case n < len(patterns):
		return patterns[n]
	case i>>(n-len(patterns))&1 == 1:
		return ^uint64(0)
	}
	return 0
}
