package conflict

import (
	"accesscontrol/api"
	"accesscontrol/truth"
)

// states knows in which states of the booleans of a policy the conditions have which values.
type states struct {
	bools  int
	conds  []api.Expr
	active map[int][]uint64 // by Cond, for those that were asked for
}

func newStates(p api.Policy) *states {
	return &states{min(len(p.Bools), api.MaxBools), p.Conds, map[int][]uint64{}}
}

// compatible reports whether there is a state in which both Conds are active. One of a condition that does not exist never is.
func (s *states) compatible(a, b int) bool {
	if !s.has(a) || !s.has(b) {
		return false
	}
	other := s.of(b)
	for i, word := range s.of(a) {
		if word&other[i] != 0 {
			return true
		}
	}
	return false
}

func (s *states) has(cond int) bool { return -len(s.conds) <= cond && cond <= len(s.conds) }

// of returns the states in which a Cond is active.
func (s *states) of(cond int) []uint64 {
	if l, found := s.active[cond]; found {
		return l
	}
	l := make([]uint64, truth.Words(s.bools))
	for i := range l {
		l[i] = s.word(cond, i)
	}
	s.active[cond] = l
	return l
}

// word returns those of a word of states in which a Cond is active.
func (s *states) word(cond, i int) uint64 {
	switch {
	case cond > 0:
		return truth.Word(&s.conds[cond-1], i, s.bools)
	case cond < 0:
		return ^truth.Word(&s.conds[-cond-1], i, s.bools)
	}
	return ^uint64(0)
}
