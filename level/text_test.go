package level_test

import (
	"math"
	"slices"
	"strconv"
	"strings"
	"testing"

	"accesscontrol/api"
	"accesscontrol/level"
)

// numbered returns the names p0, p1 ..
func numbered(p string, n int) []string {
	var l []string
	for i := range n {
		l = append(l, p+strconv.Itoa(i))
	}
	return l
}

// names are those of the chapter's examples.
func names() (sens, cats []string) { return numbered("s", 2), numbered("c", 6) }

// valid are ranges for these names, each with its text.
func valid() []struct {
	r    api.Range
	text string
} {
	return []struct {
		r    api.Range
		text string
	}{
		{span(at(0), at(0)), "s0"},
		{span(at(1), at(1)), "s1"},
		{span(at(0), at(1)), "s0-s1"},
		{span(at(0), at(0, 0)), "s0-s0:c0"},
		{span(at(0, 1), at(1, 0, 1, 2, 4)), "s0:c1-s1:c0.c2,c4"},
		{span(at(1, 0, 1, 3, 4), at(1, 0, 1, 3, 4)), "s1:c0.c1,c3.c4"},
		{span(at(0, 0, 1), at(0, 0, 1)), "s0:c0.c1"},
		{span(at(0, 0, 2), at(0, 0, 2)), "s0:c0,c2"},
		{span(at(0, 0, 2, 4), at(1, 0, 2, 4)), "s0:c0,c2,c4-s1:c0,c2,c4"},
		{span(at(0, 5), at(0, 4, 5)), "s0:c5-s0:c4.c5"},
		{span(at(0, 0, 1, 2, 3, 4, 5), at(1, 0, 1, 2, 3, 4, 5)), "s0:c0.c5-s1:c0.c5"},
		{span(at(0, 0, 5), at(0, 0, 3, 4, 5)), "s0:c0,c5-s0:c0,c3.c5"},
	}
}

// invalid are ranges that are not valid for these names.
func invalid() []api.Range {
	return []api.Range{
		span(at(1), at(0)), span(at(0, 1), at(1, 0)), span(at(0, 1), at(0)), span(at(-1), at(0)), span(at(0), at(2)), span(at(2), at(2)),
		span(at(-1), at(-1)), span(at(0), at(0, 6)), span(at(0, 63), at(0, 63)), span(at(math.MinInt), at(0)), span(at(0), at(math.MaxInt)),
	}
}

// improper are names that are not proper; each list stands for sensitivities and for categories.
func improper() [][]string {
	return [][]string{
		{""}, {"a", ""}, {"a", "a"}, {"a", "b", "a"}, {"a b"}, {" a"}, {"a-b"}, {"a:b"}, {"a.b"}, {"a,b"}, {"é"}, {"a\x00"}, {"a\n"}, {"[x]"}, {"@"}, {"`"}, {"{"}, {"/"},
		{"a", strings.Repeat("n", api.MaxName+1)}, {strings.Repeat("n", 1<<16)},
	}
}

// improperPairs are names of sensitivities and categories, of which one list is not proper.
func improperPairs() [][2][]string {
	sens, cats := names()
	var l [][2][]string
	for _, x := range improper() {
		l = append(l, [2][]string{slices.Concat(sens, x), cats}, [2][]string{sens, slices.Concat(cats, x)}, [2][]string{x, cats}, [2][]string{sens, x})
	}
	return append(l,
		[2][]string{numbered("s", api.MaxSens+1), cats}, [2][]string{sens, numbered("c", api.MaxCats+1)},
		[2][]string{numbered("s", 1<<16), nil}, [2][]string{nil, numbered("c", 1<<16)})
}

func checkText(t *testing.T, r api.Range, sens, cats []string, text string, code api.Errno) {
	t.Helper()
	if s, e := level.Text(r, sens, cats); s != text || e != code {
		t.Errorf("Text(%v): got %q, %v, want %q, %v", r, s, e, text, code)
	}
}

func checkParse(t *testing.T, s string, sens, cats []string, r api.Range, code api.Errno) {
	t.Helper()
	if x, e := level.Parse(s, sens, cats); x != r || e != code {
		t.Errorf("Parse(%.80q): got %v, %v, want %v, %v", s, x, e, r, code)
	}
}

// P5.5: Text and Parse of valid ranges, and of ones that are not.
func TestText(t *testing.T) {
	sens, cats := names()
	for _, x := range valid() {
		checkText(t, x.r, sens, cats, x.text, api.OK)
		checkParse(t, x.text, sens, cats, x.r, api.OK)
	}
	for _, r := range invalid() {
		checkText(t, r, sens, cats, "", api.ErrLevel)
	}
	checkText(t, api.Range{}, nil, nil, "", api.ErrLevel)
	checkText(t, span(at(0), at(0)), sens[:1], nil, "s0", api.OK)
	checkText(t, span(at(0, 0), at(0, 0)), sens, []string{}, "", api.ErrLevel)
}

// P5.5, P5.6, P5.7: names that are not proper come first.
func TestImproper(t *testing.T) {
	for _, n := range improperPairs() {
		sens, cats := n[0], n[1]
		for _, r := range append(invalid(), span(at(0), at(0)), api.Range{}) {
			checkText(t, r, sens, cats, "", api.ErrArg)
			checkSource(t, r, sens, cats, api.RangeText{}, api.ErrArg)
		}
		for _, s := range []string{"s0", "s1:c0", "", ":", "s9", "s1-s0", "s0:c2.c1", "n:a"} {
			checkParse(t, s, sens, cats, api.Range{}, api.ErrArg)
		}
		for _, x := range []api.LevelText{{}, {Sens: "s0"}, {Sens: "no"}, {Sens: "s0", Cats: []api.Span{{From: "c2", To: "c1"}}}} {
			checkLevel(t, x, sens, cats, api.Level{}, api.ErrArg)
			checkRange(t, api.RangeText{Low: x}, sens, cats, api.Range{}, api.ErrArg)
			checkRange(t, api.RangeText{Low: x, High: x}, sens, cats, api.Range{}, api.ErrArg)
		}
	}
}

// P5.5: names at the limits are proper, also ones that are a sensitivity and a category.
func TestProper(t *testing.T) {
	long := strings.Repeat("n", api.MaxName)
	sens := append(numbered("s", api.MaxSens-5), long, "0", "_", "Z9_az", "if")
	cats := append(numbered("c", api.MaxCats-6), long, "0", "_", "azAZ09", "else", "s0")
	r := span(at(11, 58), at(15, 0, 58, 59, 60, 61, 62, 63))
	text := long + ":" + long + "-if:c0," + long + ".s0"
	checkText(t, r, sens, cats, text, api.OK)
	checkParse(t, text, sens, cats, r, api.OK)
	all := span(at(15), api.Level{Sens: 15, Cats: math.MaxUint64})
	checkText(t, all, sens, cats, "if-if:c0.s0", api.OK)
	checkParse(t, "if-if:c0.s0", sens, cats, all, api.OK)
	checkParse(t, "0:_,0", sens, cats, span(at(12, 59, 60), at(12, 59, 60)), api.OK)
}

// P5.5: what Parse accepts besides the texts of ranges.
func TestParseOther(t *testing.T) {
	sens, cats := names()
	for _, x := range []struct {
		s    string
		want api.Range
	}{
		{"s1:c3.c4,c0,c1", span(at(1, 0, 1, 3, 4), at(1, 0, 1, 3, 4))},
		{"s0:c5,c3,c1", span(at(0, 1, 3, 5), at(0, 1, 3, 5))},
		{"s0:c0.c3,c2.c5", span(at(0, 0, 1, 2, 3, 4, 5), at(0, 0, 1, 2, 3, 4, 5))},
		{"s0:c2.c5,c0.c3", span(at(0, 0, 1, 2, 3, 4, 5), at(0, 0, 1, 2, 3, 4, 5))},
		{"s0:c0.c1,c2.c3,c4", span(at(0, 0, 1, 2, 3, 4), at(0, 0, 1, 2, 3, 4))},
		{"s0:c1,c1,c1.c2,c1.c2", span(at(0, 1, 2), at(0, 1, 2))},
		{"s0:c2.c2", span(at(0, 2), at(0, 2))},
		{"s0:c2.c2,c2", span(at(0, 2), at(0, 2))},
		{"s0-s0", span(at(0), at(0))},
		{"s1:c1-s1:c1.c1", span(at(1, 1), at(1, 1))},
		{"s0:c1,c0-s0:c0.c1", span(at(0, 0, 1), at(0, 0, 1))},
		{"s0:c1-s1:c5,c0.c1,c4", span(at(0, 1), at(1, 0, 1, 4, 5))},
		{"s0:" + strings.Repeat("c0,c2.c4,", 10000) + "c5", span(at(0, 0, 2, 3, 4, 5), at(0, 0, 2, 3, 4, 5))},
	} {
		checkParse(t, x.s, sens, cats, x.want, api.OK)
	}
}

// P5.5: texts that do not have the form of a text of a range.
func TestParseSyntax(t *testing.T) {
	sens, cats := names()
	for _, s := range []string{
		"", " ", "-", ":", ".", ",", "s0:", ":c0", "s0-", "-s0", "s0 - s1", "s0- s1", " s0", "s0 ", "s0\n", "s0--s1", "s0-s1-s1", "s0-s1-", "s0::c0", "s0:c0:c1", "s0:c0:", "s0,c0", "s0.s1",
		"s0:,", "s0:c0,", "s0:,c0", "s0:c0,,c1", "s0:.", "s0:c0.", "s0:.c1", "s0:c0..c1", "s0:c0.c1.c2", "s0:c0.c1.", "s0: c0", "s0:c0, c1", "s0:c0-", "s0-:c0", "s0:c0-c1:", "s0:c0-:", "s0-s1:", "s0-s1:c0,",
		"é", "s0:é", "s0:c0.é", "s0-é", "s0:c0;", "s0\x00", "s0:c0\xff", "[", "@", "`", "{", "/", "s0:*", "s0:c0!", "\"s0\"",
	} {
		checkParse(t, s, sens, cats, api.Range{}, api.ErrSyntax)
		checkParse(t, s, nil, nil, api.Range{}, api.ErrSyntax)
		checkParse(t, s+"-s1", sens, cats, api.Range{}, api.ErrSyntax)
	}
	for _, s := range []string{"s9:", "s9-s8-", "s1-s0:", "s0:c2.c1,", "s0:c9-"} {
		checkParse(t, s, sens, cats, api.Range{}, api.ErrSyntax)
	}
}

// P5.5: a text of the right form with names that do not exist, or do not make a range.
func TestParseNames(t *testing.T) {
	sens, cats := names()
	for _, x := range []struct {
		s    string
		want api.Errno
	}{
		{"s2", api.ErrNone}, {"S0", api.ErrNone}, {"c0", api.ErrNone}, {"0", api.ErrNone}, {"_", api.ErrNone}, {strings.Repeat("s", 1<<16), api.ErrNone},
		{"s0:c9", api.ErrNone}, {"s0:s0", api.ErrNone}, {"s0:c0,c6", api.ErrNone}, {"s0:c0.c6", api.ErrNone}, {"s0:c6.c0", api.ErrNone}, {"s0-s2", api.ErrNone}, {"s0-s1:c6", api.ErrNone},
		{"s0:c2.c1", api.ErrLevel}, {"s0:c0,c5.c0", api.ErrLevel}, {"s0-s1:c3.c2", api.ErrLevel}, {"s1-s0", api.ErrLevel}, {"s0:c0-s1", api.ErrLevel}, {"s0:c0-s1:c1", api.ErrLevel},
		{"s0:c2.c1,c9", api.ErrLevel}, {"s0:c9,c2.c1", api.ErrNone}, {"s9:c2.c1", api.ErrNone}, {"s0:c2.c1-s9", api.ErrLevel}, {"s1-s9", api.ErrNone}, {"s9-s0:c2.c1", api.ErrNone}, {"s1-s0:c2.c1", api.ErrLevel}, {"s1-s0:c9", api.ErrNone},
	} {
		checkParse(t, x.s, sens, cats, api.Range{}, x.want)
	}
	checkParse(t, "s0", nil, nil, api.Range{}, api.ErrNone)
	checkParse(t, "s0:c0", sens, nil, api.Range{}, api.ErrNone)
}
