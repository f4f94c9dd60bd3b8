package optimizer

import (
	"math"
	"slices"

	"accesscontrol/api"
	"accesscontrol/truth"
)

// valuesOf returns, for each state of the booleans of a policy, the values of its conditions: the bit i is that of the condition i. (Comparing with boolexp would not do: to it, the negation of a condition with MaxNest levels is none.)
func valuesOf(p *api.Policy) []uint64 {
	bools := min(len(p.Bools), api.MaxBools)
	values := make([]uint64, truth.Words(bools)*truth.WordBits)
	for i := range min(len(p.Conds), api.MaxConds) {
		for word := range truth.Words(bools) {
			bits := truth.Word(&p.Conds[i], word, bools)
			for n := range truth.WordBits {
				values[word*truth.WordBits+n] |= bits >> n & 1 << i
			}
		}
	}
	return values
}

// isActive reports whether something with a Cond is active where conditions have these values.
func isActive(cond int, values uint64) bool {
	switch {
	case cond > 0:
		return values>>(cond-1)&1 == 1
	case cond < 0:
		return values>>(-cond-1)&1 == 0
	}
	return true
}

// scene is the values that the conditions of two policies have in the same state of their booleans.
type scene struct{ first, second uint64 }

// scenes are all different ones of two policies, and what was found out about them.
type scenes struct {
	all   []scene
	parts map[int]part // where a Cond of the first policy is active
	empty map[part]bool
}

// part is the scenes in which a Cond of the first policy is active, some conditions of the second one are true, and some are false (bit i: the condition i).
type part struct {
	cond            int
	isTrue, isFalse uint64
}

// scenesOf returns the scenes of policies with the same booleans.
func scenesOf(a, b *api.Policy) *scenes {
	s := &scenes{parts: map[int]part{}, empty: map[part]bool{}}
	seen := map[scene]bool{}
	second := valuesOf(b)
	for n, first := range valuesOf(a) {
		v := scene{first, second[n]}
		if !seen[v] {
			seen[v] = true
			s.all = append(s.all, v)
		}
	}
	return s
}

// where returns the part in which a Cond of the first policy is active, with the conditions of the second one that are true, or false, in all of it.
func (s *scenes) where(cond int) part {
	x, known := s.parts[cond]
	if !known {
		x = part{cond, math.MaxUint64, math.MaxUint64}
		for _, v := range s.all {
			if isActive(cond, v.first) {
				x.isTrue &= v.second
				x.isFalse &^= v.second
			}
		}
		s.parts[cond] = x
	}
	return x
}

// isEmpty reports whether a part has no scene.
func (s *scenes) isEmpty(x part) bool {
	empty, known := s.empty[x]
	if !known {
		empty = !slices.ContainsFunc(s.all, x.has)
		s.empty[x] = empty
	}
	return empty
}

func (x part) has(v scene) bool {
	return isActive(x.cond, v.first) && ^v.second&x.isTrue == 0 && v.second&x.isFalse == 0
}

// isPlainlyEmpty reports whether a part is empty because a condition would have to be true and false. One that is not may be empty, too.
func (x part) isPlainlyEmpty() bool { return x.isTrue&x.isFalse != 0 }

// with returns those of a part in which a Cond of the second policy is active.
func (x part) with(cond int) part {
	if cond == 0 {
		return x
	}
	return x.without(-cond)
}

// without returns those of a part in which a Cond of the second policy is not active.
func (x part) without(cond int) part {
	switch {
	case cond > 0:
		x.isFalse |= 1 << (cond - 1)
	case cond < 0:
		x.isTrue |= 1 << (-cond - 1)
	default:
		x.isTrue, x.isFalse = math.MaxUint64, math.MaxUint64
	}
	return x
}
