package level_test

import (
	"math"
	"testing"

	"accesscontrol/api"
	"accesscontrol/level"
)

func at(sens int, cats ...int) api.Level {
	l := api.Level{Sens: sens}
	for _, n := range cats {
		l.Cats |= 1 << n
	}
	return l
}

func span(low, high api.Level) api.Range { return api.Range{Low: low, High: high} }

// has reports whether a category is one of a level.
func has(l api.Level, n int) bool { return l.Cats&(1<<n) != 0 }

// small are all levels with 3 sensitivities and 3 categories.
func small() []api.Level {
	var l []api.Level
	for sens := range 3 {
		for cats := range uint64(8) {
			l = append(l, api.Level{Sens: sens, Cats: cats})
		}
	}
	return l
}

// extreme are levels that no policy has, and levels at the limits.
func extreme() []api.Level {
	var l []api.Level
	for _, sens := range []int{math.MinInt, -1, 0, 15, 16, math.MaxInt} {
		for _, cats := range []uint64{0, 1, 2, 3, 1 << 62, 1 << 63, 1<<63 | 1, math.MaxUint64, math.MaxUint64 - 1, math.MaxUint64 >> 1} {
			l = append(l, api.Level{Sens: sens, Cats: cats})
		}
	}
	return l
}

// samples are small levels, among them ones that are incomparable, and extreme ones.
func samples() []api.Level {
	return append([]api.Level{at(1), at(0, 1), at(1, 0), at(1, 1), at(2, 0, 1), at(0, 0, 1, 2), at(1, 2)}, extreme()...)
}

// dominates is the definition of dominance.
func dominates(a, b api.Level) bool {
	if a.Sens < b.Sens {
		return false
	}
	for n := range api.MaxCats {
		if has(b, n) && !has(a, n) {
			return false
		}
	}
	return true
}

// P5.1: Check.
func TestCheck(t *testing.T) {
	numbers := []int{math.MinInt, -65, -64, -1, 0, 1, 2, 3, 15, 16, 17, 62, 63, 64, 65, 128, math.MaxInt}
	for _, l := range append(small(), extreme()...) {
		for _, sens := range numbers {
			for _, cats := range numbers {
				want := l.Sens >= 0 && l.Sens < sens
				for n := range api.MaxCats {
					want = want && (!has(l, n) || n < cats)
				}
				if got := level.Check(l, sens, cats); got != want {
					t.Errorf("Check(%v, %d, %d): got %v, want %v", l, sens, cats, got, want)
				}
			}
		}
	}
}

// P5.1: 64 categories or more permit each one, a negative number none.
func TestCheckLimits(t *testing.T) {
	for n := range api.MaxCats {
		for _, c := range []struct {
			cats int
			want bool
		}{{n, false}, {n + 1, true}, {64, true}, {65, true}, {math.MaxInt, true}, {0, false}, {-1, false}, {-64, false}, {math.MinInt, false}} {
			if got := level.Check(at(0, n), 1, c.cats); got != c.want {
				t.Errorf("Check with the category %d of %d: got %v", n, c.cats, got)
			}
		}
	}
	for _, cats := range []int{0, -1, math.MinInt} {
		if !level.Check(at(0), 1, cats) {
			t.Errorf("Check without categories of %d: got false", cats)
		}
	}
}

// P5.1: CheckRange.
func TestCheckRange(t *testing.T) {
	for _, low := range samples() {
		for _, high := range samples() {
			for _, n := range [][2]int{{2, 2}, {3, 3}, {16, 64}, {16, 63}, {17, 64}, {0, 64}, {-1, -1}, {16, -1}, {math.MaxInt, math.MaxInt}} {
				want := level.Check(low, n[0], n[1]) && level.Check(high, n[0], n[1]) && dominates(high, low)
				if got := level.CheckRange(span(low, high), n[0], n[1]); got != want {
					t.Errorf("CheckRange(%v, %v) of %v: got %v", low, high, n, got)
				}
			}
		}
	}
	for _, c := range []struct {
		r    api.Range
		want bool
	}{
		{span(at(0, 1), at(1, 0, 1, 2, 4)), true}, {span(at(1), at(1)), true}, {span(at(0), at(0, 5)), true},
		{span(at(1), at(0)), false}, {span(at(0, 1), at(1, 0)), false}, {span(at(0, 1), at(1)), false},
		{span(at(-1), at(0)), false}, {span(at(0), at(2)), false}, {span(at(0, 6), at(0, 6)), false}, {span(at(0), at(1, 6)), false},
	} {
		if got := level.CheckRange(c.r, 2, 6); got != c.want {
			t.Errorf("CheckRange(%v): got %v", c.r, got)
		}
	}
}

// P5.2: Dominates and Relation.
func TestRelation(t *testing.T) {
	for _, a := range samples() {
		for _, b := range samples() {
			want := api.RelIncomparable
			switch {
			case dominates(a, b) && dominates(b, a):
				want = api.RelSame
			case dominates(a, b):
				want = api.RelDominates
			case dominates(b, a):
				want = api.RelDominatedBy
			}
			if got := level.Dominates(a, b); got != dominates(a, b) {
				t.Errorf("Dominates(%v, %v): got %v", a, b, got)
			}
			if got := level.Relation(a, b); got != want {
				t.Errorf("Relation(%v, %v): got %d, want %d", a, b, got, want)
			}
		}
	}
	if level.Relation(at(0, 1), at(1, 0)) != api.RelIncomparable || level.Relation(at(0, 1), at(0, 2)) != api.RelIncomparable {
		t.Error("incomparable levels are comparable")
	}
}

// P5.3: Join and Meet.
func TestJoinMeet(t *testing.T) {
	for _, a := range samples() {
		for _, b := range samples() {
			join, meet := level.Join(a, b), level.Meet(a, b)
			greater, lesser := a.Sens, b.Sens
			if greater < lesser {
				greater, lesser = lesser, greater
			}
			if join.Sens != greater || meet.Sens != lesser {
				t.Errorf("%v and %v: Join %v, Meet %v", a, b, join, meet)
			}
			for n := range api.MaxCats {
				if has(join, n) != (has(a, n) || has(b, n)) || has(meet, n) != (has(a, n) && has(b, n)) {
					t.Errorf("%v and %v, category %d: Join %v, Meet %v", a, b, n, join, meet)
				}
			}
		}
	}
	if x := level.Join(at(0, 1), at(1, 0)); x != at(1, 0, 1) {
		t.Errorf("Join: got %v", x)
	}
	if x := level.Meet(at(0, 1), at(1, 0)); x != at(0) {
		t.Errorf("Meet: got %v", x)
	}
}

// ranges are ranges of these levels, also ones that are not valid.
func ranges(levels []api.Level) []api.Range {
	var l []api.Range
	for _, low := range levels {
		for _, high := range levels {
			l = append(l, span(low, high))
		}
	}
	return l
}

// P5.4: Contains and Span, of any ranges.
func TestContainsSpan(t *testing.T) {
	l := ranges([]api.Level{at(0), at(1), at(0, 0), at(0, 1), at(1, 0, 1), {Sens: -1, Cats: math.MaxUint64}, {Sens: math.MinInt, Cats: 1 << 63}, {Sens: math.MaxInt, Cats: 3}})
	for _, a := range l {
		for _, b := range l {
			if got, want := level.Contains(a, b), dominates(b.Low, a.Low) && dominates(a.High, b.High); got != want {
				t.Errorf("Contains(%v, %v): got %v", a, b, got)
			}
			if got, want := level.Span(a, b), span(level.Meet(a.Low, b.Low), level.Join(a.High, b.High)); got != want {
				t.Errorf("Span(%v, %v): got %v, want %v", a, b, got, want)
			}
		}
	}
	outer := span(at(0, 1), at(1, 0, 1))
	if !level.Contains(outer, outer) || !level.Contains(outer, span(at(1, 1), at(1, 1))) || level.Contains(outer, span(at(0), at(1, 1))) || level.Contains(outer, span(at(0, 1), at(1, 1, 2))) {
		t.Error("Contains")
	}
}
