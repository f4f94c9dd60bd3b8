package level_test

import (
	"reflect"
	"slices"
	"strings"
	"testing"

	"accesscontrol/api"
	"accesscontrol/level"
)

func one(name string) api.Span { return api.Span{From: name} }

func two(from, to string) api.Span { return api.Span{From: from, To: to} }

func levelText(sens string, spans ...api.Span) api.LevelText {
	return api.LevelText{Sens: sens, Cats: spans}
}

func rangeText(low, high api.LevelText) api.RangeText { return api.RangeText{Low: low, High: high} }

func checkLevel(t *testing.T, x api.LevelText, sens, cats []string, want api.Level, code api.Errno) {
	t.Helper()
	if l, e := level.Level(x, sens, cats); l != want || e != code {
		t.Errorf("Level(%.200v): got %v, %v, want %v, %v", x, l, e, want, code)
	}
}

func checkRange(t *testing.T, x api.RangeText, sens, cats []string, want api.Range, code api.Errno) {
	t.Helper()
	if r, e := level.Range(x, sens, cats); r != want || e != code {
		t.Errorf("Range(%.200v): got %v, %v, want %v, %v", x, r, e, want, code)
	}
}

func sameLevelText(a, b api.LevelText) bool { return a.Sens == b.Sens && slices.Equal(a.Cats, b.Cats) }

func checkSource(t *testing.T, r api.Range, sens, cats []string, want api.RangeText, code api.Errno) {
	t.Helper()
	if x, e := level.Source(r, sens, cats); !sameLevelText(x.Low, want.Low) || !sameLevelText(x.High, want.High) || e != code {
		t.Errorf("Source(%v): got %v, %v, want %v, %v", r, x, e, want, code)
	}
}

// P5.6: Level.
func TestLevel(t *testing.T) {
	sens, cats := names()
	for _, c := range []struct {
		x    api.LevelText
		want api.Level
	}{
		{levelText("s0"), at(0)},
		{api.LevelText{Sens: "s1", Cats: []api.Span{}}, at(1)},
		{levelText("s1", one("c0")), at(1, 0)},
		{levelText("s1", one("c5")), at(1, 5)},
		{levelText("s0", two("c0", "c5")), at(0, 0, 1, 2, 3, 4, 5)},
		{levelText("s0", two("c3", "c3")), at(0, 3)},
		{levelText("s0", two("c3", "c4")), at(0, 3, 4)},
		{levelText("s0", one("c4"), one("c0"), one("c2")), at(0, 0, 2, 4)},
		{levelText("s0", two("c0", "c3"), two("c2", "c4"), one("c3")), at(0, 0, 1, 2, 3, 4)},
		{levelText("s0", two("c0", "c1"), two("c2", "c3")), at(0, 0, 1, 2, 3)},
		{levelText("s0", slices.Repeat([]api.Span{one("c1"), two("c4", "c5")}, 10000)...), at(0, 1, 4, 5)},
	} {
		checkLevel(t, c.x, sens, cats, c.want, api.OK)
		checkRange(t, api.RangeText{Low: c.x}, sens, cats, span(c.want, c.want), api.OK)
		checkRange(t, rangeText(c.x, c.x), sens, cats, span(c.want, c.want), api.OK)
	}
	checkLevel(t, levelText("x", two("x", "y")), []string{"x"}, []string{"y", "x", "z", "w"}, api.Level{}, api.ErrLevel)
	checkLevel(t, levelText("x", two("x", "w")), []string{"x"}, []string{"y", "x", "z", "w"}, at(0, 1, 2, 3), api.OK)
	checkLevel(t, levelText("s15", one("c63"), two("c61", "c62")), numbered("s", 16), numbered("c", 64), at(15, 61, 62, 63), api.OK)
}

// P5.6: the errors of Level, in their order.
func TestLevelErrors(t *testing.T) {
	sens, cats := names()
	for _, c := range []struct {
		x    api.LevelText
		want api.Errno
	}{
		{levelText(""), api.ErrNone},
		{levelText("s2"), api.ErrNone},
		{levelText("c0"), api.ErrNone},
		{levelText(" s0"), api.ErrNone},
		{levelText(strings.Repeat("s", 1<<16)), api.ErrNone},
		{levelText("", one("c0")), api.ErrNone},
		{levelText("s0", one("")), api.ErrNone},
		{levelText("s0", one("c6")), api.ErrNone},
		{levelText("s0", one("s0")), api.ErrNone},
		{levelText("s0", one("c0"), one("")), api.ErrNone},
		{levelText("s0", two("c0", "c6")), api.ErrNone},
		{levelText("s0", two("c6", "c0")), api.ErrNone},
		{levelText("s0", two("", "c0")), api.ErrNone},
		{levelText("s0", two("c0", " ")), api.ErrNone},
		{levelText("s0", two("c1", "c0")), api.ErrLevel},
		{levelText("s0", two("c5", "c0")), api.ErrLevel},
		{levelText("s0", one("c0"), two("c1", "c0")), api.ErrLevel},
		{levelText("s0", two("c1", "c0"), one("c6")), api.ErrLevel},
		{levelText("s0", one("c6"), two("c1", "c0")), api.ErrNone},
		{levelText("s2", two("c1", "c0")), api.ErrNone},
	} {
		checkLevel(t, c.x, sens, cats, api.Level{}, c.want)
		checkRange(t, api.RangeText{Low: c.x}, sens, cats, api.Range{}, c.want)
		checkRange(t, rangeText(c.x, levelText("no")), sens, cats, api.Range{}, c.want)
		if c.x.Sens != "" || len(c.x.Cats) > 0 {
			checkRange(t, rangeText(levelText("s0"), c.x), sens, cats, api.Range{}, c.want)
			checkRange(t, rangeText(levelText("s1", one("c0")), c.x), sens, cats, api.Range{}, c.want)
			checkRange(t, rangeText(levelText("s0", two("c1", "c0")), c.x), sens, cats, api.Range{}, api.ErrLevel)
		}
	}
	checkLevel(t, levelText("s0"), nil, nil, api.Level{}, api.ErrNone)
	checkLevel(t, levelText("s0"), sens, nil, at(0), api.OK)
}

// P5.6: Range.
func TestRange(t *testing.T) {
	sens, cats := names()
	low := levelText("s0", one("c1"))
	for _, c := range []struct {
		high api.LevelText
		want api.Range
		code api.Errno
	}{
		{api.LevelText{}, span(at(0, 1), at(0, 1)), api.OK},
		{api.LevelText{Cats: []api.Span{}}, span(at(0, 1), at(0, 1)), api.OK},
		{levelText("s0", one("c1")), span(at(0, 1), at(0, 1)), api.OK},
		{levelText("s0", two("c1", "c1")), span(at(0, 1), at(0, 1)), api.OK},
		{levelText("s0", two("c0", "c1")), span(at(0, 1), at(0, 0, 1)), api.OK},
		{levelText("s1", two("c0", "c2"), one("c4")), span(at(0, 1), at(1, 0, 1, 2, 4)), api.OK},
		{levelText("s0"), api.Range{}, api.ErrLevel},
		{levelText("s1"), api.Range{}, api.ErrLevel},
		{levelText("s1", one("c0")), api.Range{}, api.ErrLevel},
		{levelText("", one("c1")), api.Range{}, api.ErrNone},
		{api.LevelText{Cats: []api.Span{{}}}, api.Range{}, api.ErrNone},
		{levelText("s2"), api.Range{}, api.ErrNone},
	} {
		checkRange(t, rangeText(low, c.high), sens, cats, c.want, c.code)
	}
	checkRange(t, rangeText(levelText("s1"), levelText("s0")), sens, cats, api.Range{}, api.ErrLevel)
	checkRange(t, api.RangeText{}, sens, cats, api.Range{}, api.ErrNone)
}

// P5.7: Source.
func TestSource(t *testing.T) {
	sens, cats := names()
	for _, c := range []struct {
		r    api.Range
		want api.RangeText
	}{
		{span(at(0), at(0)), rangeText(levelText("s0"), levelText(""))},
		{span(at(1, 5), at(1, 5)), rangeText(levelText("s1", one("c5")), levelText(""))},
		{span(at(0), at(1)), rangeText(levelText("s0"), levelText("s1"))},
		{span(at(0), at(0, 0)), rangeText(levelText("s0"), levelText("s0", one("c0")))},
		{span(at(0, 1), at(1, 0, 1, 2, 4)), rangeText(levelText("s0", one("c1")), levelText("s1", two("c0", "c2"), one("c4")))},
		{span(at(0, 0, 1, 3, 5), at(0, 0, 1, 3, 5)), rangeText(levelText("s0", two("c0", "c1"), one("c3"), one("c5")), levelText(""))},
		{span(at(0, 4, 5), at(0, 0, 1, 2, 3, 4, 5)), rangeText(levelText("s0", two("c4", "c5")), levelText("s0", two("c0", "c5")))},
	} {
		checkSource(t, c.r, sens, cats, c.want, api.OK)
	}
	for _, r := range invalid() {
		checkSource(t, r, sens, cats, api.RangeText{}, api.ErrLevel)
	}
	checkSource(t, api.Range{}, nil, nil, api.RangeText{}, api.ErrLevel)
	checkSource(t, span(at(15), api.Level{Sens: 15, Cats: 1<<63 | 1<<62 | 1}), numbered("s", 16), numbered("c", 64),
		rangeText(levelText("s15"), levelText("s15", one("c0"), two("c62", "c63"))), api.OK)
}

// P5.7: the spans of Source are new memory, and no function changes its arguments.
func TestMemory(t *testing.T) {
	sens, cats := names()
	r := span(at(0, 1), at(1, 1, 3))
	x, _ := level.Source(r, sens, cats)
	y, _ := level.Source(r, sens, cats)
	x.Low.Cats[0].From, x.High.Cats[0].From = "x", "y"
	_ = append(x.Low.Cats, one("z"))
	if !reflect.DeepEqual(y, rangeText(levelText("s0", one("c1")), levelText("s1", one("c1"), one("c3")))) || x.High.Cats[0].From != "y" {
		t.Errorf("got %v and %v", x, y)
	}
	source := rangeText(levelText("s0", one("c2"), two("c0", "c1")), levelText("s1", two("c0", "c5"), one("c3")))
	level.Range(source, sens, cats)
	level.Parse("s0:c3,c1", sens, cats)
	level.Text(r, sens, cats)
	if !reflect.DeepEqual(source, rangeText(levelText("s0", one("c2"), two("c0", "c1")), levelText("s1", two("c0", "c5"), one("c3")))) {
		t.Errorf("the argument changed to %v", source)
	}
	if !slices.Equal(sens, numbered("s", 2)) || !slices.Equal(cats, numbered("c", 6)) {
		t.Errorf("the names changed to %v and %v", sens, cats)
	}
}
