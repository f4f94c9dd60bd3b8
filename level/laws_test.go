package level_test

import (
	"testing"

	"accesscontrol/api"
	"accesscontrol/level"
)

// P5.8: dominance is a partial order.
func TestPartialOrder(t *testing.T) {
	l := append(small(), extreme()...)
	for _, a := range l {
		if !level.Dominates(a, a) || level.Relation(a, a) != api.RelSame {
			t.Errorf("%v does not dominate itself", a)
		}
		for _, b := range l {
			ab, ba := level.Dominates(a, b), level.Dominates(b, a)
			if ab && ba && a != b {
				t.Errorf("%v and %v dominate each other", a, b)
			}
			if !ab {
				continue
			}
			for _, c := range l {
				if level.Dominates(b, c) && !level.Dominates(a, c) {
					t.Errorf("%v dominates %v, which dominates %v", a, b, c)
				}
			}
		}
	}
}

// P5.8: Join is the least level that dominates both, Meet the greatest one that both dominate.
func TestLattice(t *testing.T) {
	l := append(small(), samples()...)
	for _, a := range l {
		for _, b := range l {
			join, meet := level.Join(a, b), level.Meet(a, b)
			if !level.Dominates(join, a) || !level.Dominates(join, b) || !level.Dominates(a, meet) || !level.Dominates(b, meet) {
				t.Errorf("%v and %v: Join %v, Meet %v", a, b, join, meet)
			}
			for _, c := range l {
				if level.Dominates(c, a) && level.Dominates(c, b) && !level.Dominates(c, join) {
					t.Errorf("%v dominates %v and %v, but not their Join %v", c, a, b, join)
				}
				if level.Dominates(a, c) && level.Dominates(b, c) && !level.Dominates(meet, c) {
					t.Errorf("%v and %v dominate %v, but their Meet %v does not", a, b, c, meet)
				}
			}
		}
	}
}

// validRanges are all valid ranges with 2 sensitivities and 2 categories.
func validRanges() []api.Range {
	var l []api.Range
	for _, r := range ranges(small()) {
		if level.CheckRange(r, 2, 2) {
			l = append(l, r)
		}
	}
	return l
}

// P5.8: Span is the least range that contains both.
func TestSpanIsLeast(t *testing.T) {
	l := validRanges()
	for _, a := range l {
		for _, b := range l {
			least := level.Span(a, b)
			if !level.CheckRange(least, 2, 2) || !level.Contains(least, a) || !level.Contains(least, b) {
				t.Errorf("Span(%v, %v): got %v", a, b, least)
			}
			for _, c := range l {
				if level.Contains(c, a) && level.Contains(c, b) && !level.Contains(c, least) {
					t.Errorf("%v contains %v and %v, but not their Span %v", c, a, b, least)
				}
			}
		}
	}
}

// checkRoundTrip checks that Parse of Text, and Range of Source, is the range.
func checkRoundTrip(t *testing.T, r api.Range, sens, cats []string) {
	t.Helper()
	text, code := level.Text(r, sens, cats)
	if code != api.OK {
		t.Fatalf("Text(%v): got %v", r, code)
	}
	checkParse(t, text, sens, cats, r, api.OK)
	source, code := level.Source(r, sens, cats)
	if code != api.OK {
		t.Fatalf("Source(%v): got %v", r, code)
	}
	checkRange(t, source, sens, cats, r, api.OK)
	checkSpans(t, source.Low)
	checkSpans(t, source.High)
}

// checkSpans checks that the spans of a level with the categories c00, c01 .. are ascending, and that none of them touches the next one.
func checkSpans(t *testing.T, x api.LevelText) {
	t.Helper()
	number := func(name string) int { return int(name[1]-'0')*10 + int(name[2]-'0') }
	free := 0
	for _, s := range x.Cats {
		from, to := number(s.From), number(s.From)
		if s.To != "" {
			to = number(s.To)
		}
		if from < free || s.To != "" && to <= from {
			t.Errorf("the spans are %v", x.Cats)
		}
		free = to + 2
	}
}

// twoDigits returns the names c00 to c63.
func twoDigits() []string {
	var l []string
	for n := range api.MaxCats {
		l = append(l, "c"+string(rune('0'+n/10))+string(rune('0'+n%10)))
	}
	return l
}

// P5.8: Parse of Text, and Range of Source, is the range.
func TestRoundTrip(t *testing.T) {
	sens, cats := numbered("s", 16), twoDigits()
	for high := range uint64(256) {
		for _, low := range []uint64{0, high, high & 0b10101010, high & 0b11110000, high & 0b01100110} {
			for _, shift := range []int{0, 3, 56} {
				r := span(api.Level{Sens: 3, Cats: low << shift}, api.Level{Sens: 3 + int(high%13), Cats: high << shift})
				checkRoundTrip(t, r, sens, cats)
			}
		}
	}
	state := uint64(1)
	for range 2000 {
		state = state*6364136223846793005 + 1442695040888963407
		high := api.Level{Sens: int(state >> 60), Cats: state ^ state>>29}
		checkRoundTrip(t, span(high, high), sens, cats)
		checkRoundTrip(t, span(api.Level{Cats: high.Cats & (state << 7)}, high), sens, cats)
	}
}
