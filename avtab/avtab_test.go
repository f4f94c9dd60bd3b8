package avtab_test

import (
	"math"
	"slices"
	"testing"

	"accesscontrol/api"
	"accesscontrol/avtab"
)

// P16.1: a table has merged entries, ascending.
func TestEntries(t *testing.T) {
	for _, x := range []struct{ l, want []api.Entry }{
		{nil, nil},
		{[]api.Entry{{}, {Source: 1, Target: 2, Class: 3, Cond: 4}}, nil},
		{
			[]api.Entry{{Target: 1, Allow: 1}, {Target: 1, Cond: 1, Allow: 2}, {Target: 1, Allow: 4}},
			[]api.Entry{{Target: 1, Allow: 5}, {Target: 1, Cond: 1, Allow: 2}},
		},
		{
			[]api.Entry{{Allow: 1}, {DontAudit: 4}, {AuditAllow: 2}, {DontAudit: 5}, {}},
			[]api.Entry{{Allow: 1, AuditAllow: 2, DontAudit: 5}},
		},
		{
			[]api.Entry{{Source: 1, Allow: 1}, {Target: 1, Allow: 1}, {Class: 1, Allow: 1}, {Cond: 1, Allow: 1}, {Allow: 1}, {Cond: -1, Allow: 1}, {Class: -1, Allow: 1}, {Target: -1, Allow: 1}, {Source: -1, Allow: 1}},
			[]api.Entry{{Source: -1, Allow: 1}, {Target: -1, Allow: 1}, {Class: -1, Allow: 1}, {Cond: -1, Allow: 1}, {Allow: 1}, {Cond: 1, Allow: 1}, {Class: 1, Allow: 1}, {Target: 1, Allow: 1}, {Source: 1, Allow: 1}},
		},
		{
			[]api.Entry{{Source: math.MaxInt, Target: math.MinInt, Class: math.MaxInt, Cond: math.MinInt, DontAudit: math.MaxUint32}, {Source: math.MinInt, Cond: math.MaxInt, AuditAllow: 1 << 31}},
			[]api.Entry{{Source: math.MinInt, Cond: math.MaxInt, AuditAllow: 1 << 31}, {Source: math.MaxInt, Target: math.MinInt, Class: math.MaxInt, Cond: math.MinInt, DontAudit: math.MaxUint32}},
		},
	} {
		table := avtab.New(x.l)
		checkEntries(t, "Entries", table.Entries(), x.want)
		if table.Len() != len(x.want) {
			t.Errorf("Len: got %d, want %d", table.Len(), len(x.want))
		}
		table.Activate([]bool{true, true})
		checkEntries(t, "Entries after Activate", table.Entries(), x.want)
	}
}

// P16.1, P16.2: the example: the value of a condition decides what is found.
func TestFind(t *testing.T) {
	x := avtab.New([]api.Entry{{Target: 1, Allow: 1}, {Target: 1, Cond: 1, Allow: 2}, {Target: 1, Allow: 4}})
	checkFind(t, x, 0, 1, 0, [3]uint32{5})
	checkNumbers(t, "Targets", x.Targets(0, 0, 2), nil)
	x.Activate([]bool{true})
	checkFind(t, x, 0, 1, 0, [3]uint32{7})
	checkNumbers(t, "Targets", x.Targets(0, 0, 2), []int{1})
	for _, n := range [][3]int{{1, 0, 0}, {0, 1, 1}, {0, 0, 0}, {1, 1, 0}, {-1, 1, 0}, {math.MinInt, math.MaxInt, -1}} {
		checkFind(t, x, n[0], n[1], n[2], [3]uint32{})
	}
}

// P16.1, P16.2: which entries are visible with which values.
func TestVisibleOfConditions(t *testing.T) {
	for _, x := range []struct {
		cond   int
		values []bool
		want   bool
	}{
		{0, nil, true}, {0, []bool{false}, true}, {0, []bool{true}, true},
		{1, nil, false}, {1, []bool{false, true}, false}, {1, []bool{true, false}, true},
		{-1, nil, true}, {-1, []bool{false, true}, true}, {-1, []bool{true, false}, false},
		{3, []bool{true, true}, false}, {3, []bool{false, false, true}, true}, {3, []bool{true, true, false}, false},
		{-3, []bool{true, true}, true}, {-3, []bool{false, false, true}, false}, {-3, []bool{true, true, false, true}, true},
		{math.MaxInt, []bool{true}, false}, {-math.MaxInt, []bool{true}, true}, {math.MinInt, []bool{true}, true},
	} {
		e := api.Entry{Source: 5, Target: 6, Class: 7, Cond: x.cond, Allow: 1, AuditAllow: 2, DontAudit: 4}
		table := avtab.New([]api.Entry{e})
		table.Activate(x.values)
		var want []api.Entry
		var vectors [3]uint32
		var targets, sources []int
		if x.want {
			e.Cond = 0
			want, vectors, targets, sources = []api.Entry{e}, [3]uint32{1, 2, 4}, []int{6}, []int{5}
		}
		checkEntries(t, "Visible", table.Visible(), want)
		checkFind(t, table, 5, 6, 7, vectors)
		checkNumbers(t, "Targets", table.Targets(5, 7, 0), targets)
		checkNumbers(t, "Sources", table.Sources(6, 7, 0), sources)
	}
}

// P16.1: all conditions are false at first, and those that Activate does not name become false again.
func TestActivate(t *testing.T) {
	x := avtab.New([]api.Entry{{Cond: 1, Allow: 1}, {Cond: 2, Allow: 2}, {Cond: -2, Allow: 4}, {Cond: 3, Allow: 8}})
	checkFind(t, x, 0, 0, 0, [3]uint32{4})
	for _, s := range []struct {
		values []bool
		want   uint32
	}{
		{[]bool{true, true, true}, 11},
		{[]bool{true}, 5},
		{[]bool{false, true}, 2},
		{nil, 4},
		{[]bool{true, true, true, true, true, true}, 11},
		{[]bool{}, 4},
		{make([]bool, 1000), 4},
	} {
		x.Activate(s.values)
		checkFind(t, x, 0, 0, 0, [3]uint32{s.want})
	}
}

// P16.2: visible entries are merged again, and ascending.
func TestVisible(t *testing.T) {
	x := avtab.New([]api.Entry{
		{Source: 1, Cond: -2, Allow: 1}, {Source: 1, Cond: 1, AuditAllow: 2}, {Source: 1, Cond: 2, Allow: 16}, {Source: 1, Allow: 1, DontAudit: 4},
		{Target: 3, Cond: 5, Allow: 1}, {Target: 2, Class: 1, Cond: -5, Allow: 1}, {Target: 2, Cond: -9, Allow: 1}, {Target: 2, Cond: -8, Allow: 8},
	})
	x.Activate([]bool{true})
	checkEntries(t, "Visible", x.Visible(), []api.Entry{
		{Target: 2, Allow: 9}, {Target: 2, Class: 1, Allow: 1}, {Source: 1, Allow: 1, AuditAllow: 2, DontAudit: 4},
	})
	if x.Len() != 8 {
		t.Errorf("Len: got %d", x.Len())
	}
}

// P16.3: targets and sources of visible entries that allow all of the permissions.
func TestTargetsAndSources(t *testing.T) {
	x := avtab.New([]api.Entry{
		{Source: 1, Target: 9, Allow: 3}, {Source: 1, Target: 4, Allow: 1}, {Source: 1, Target: 4, Cond: 1, Allow: 2}, {Source: 1, Target: 7, AuditAllow: 3},
		{Source: 1, Target: -2, Cond: -1, Allow: 3}, {Source: 1, Target: 5, Class: 1, Allow: 3}, {Source: 2, Target: 4, Allow: 3}, {Source: -3, Target: 4, Cond: 2, DontAudit: 1},
	})
	for _, s := range []struct {
		source, class int
		perms         uint32
		want          []int
	}{
		{1, 0, 0, []int{-2, 4, 7, 9}}, {1, 0, 1, []int{-2, 4, 9}}, {1, 0, 2, []int{-2, 9}}, {1, 0, 3, []int{-2, 9}}, {1, 0, 4, nil}, {1, 0, 7, nil},
		{1, 1, 3, []int{5}}, {1, 2, 0, nil}, {2, 0, 3, []int{4}}, {3, 0, 0, nil}, {-3, 0, 0, nil}, {-1, -1, 0, nil}, {math.MinInt, math.MaxInt, math.MaxUint32, nil},
	} {
		checkNumbers(t, "Targets", x.Targets(s.source, s.class, s.perms), s.want)
	}
	checkNumbers(t, "Sources", x.Sources(4, 0, 0), []int{1, 2})
	checkNumbers(t, "Sources", x.Sources(4, 0, 3), []int{2})
	x.Activate([]bool{true, true})
	checkNumbers(t, "Targets", x.Targets(1, 0, 2), []int{4, 9})
	checkNumbers(t, "Targets", x.Targets(1, 0, 0), []int{4, 7, 9})
	checkNumbers(t, "Sources", x.Sources(4, 0, 0), []int{-3, 1, 2})
	checkNumbers(t, "Sources", x.Sources(4, 0, 3), []int{1, 2})
	checkNumbers(t, "Sources", x.Sources(4, 0, 4), nil)
	checkNumbers(t, "Sources", x.Sources(1, 0, 0), nil)
	checkNumbers(t, "Sources", x.Sources(5, 1, 1), []int{1})
}

// P16.4: a copy has the same entries and values, and neither changes with the other.
func TestCopy(t *testing.T) {
	x := avtab.New([]api.Entry{{Allow: 1}, {Cond: 1, Allow: 2}, {Cond: 2, Allow: 4}})
	x.Activate([]bool{true})
	c := x.Copy()
	checkSame(t, c, x)
	checkFind(t, c, 0, 0, 0, [3]uint32{3})
	x.Activate([]bool{false, true})
	checkFind(t, c, 0, 0, 0, [3]uint32{3})
	c.Activate(nil)
	checkFind(t, c, 0, 0, 0, [3]uint32{1})
	checkFind(t, x, 0, 0, 0, [3]uint32{5})
	again := c.Copy().Copy()
	again.Activate([]bool{true, true})
	checkFind(t, again, 0, 0, 0, [3]uint32{7})
	checkFind(t, c, 0, 0, 0, [3]uint32{1})
	checkEntries(t, "Entries", again.Entries(), x.Entries())
}

// P16.1 to P16.4: methods of a table that New did not return give zero values, and change nothing.
func TestNotMade(t *testing.T) {
	made := avtab.New([]api.Entry{{Allow: 1}, {Cond: 1, Allow: 2}})
	assigned := *made
	for _, x := range []*avtab.Table{nil, {}, new(avtab.Table), &assigned} {
		x.Activate([]bool{true})
		checkFind(t, x, 0, 0, 0, [3]uint32{})
		checkEntries(t, "Entries", x.Entries(), nil)
		checkEntries(t, "Visible", x.Visible(), nil)
		checkNumbers(t, "Targets", x.Targets(0, 0, 0), nil)
		checkNumbers(t, "Sources", x.Sources(0, 0, 0), nil)
		if x.Len() != 0 || x.Copy() != nil {
			t.Errorf("got Len %d, Copy %v", x.Len(), x.Copy())
		}
	}
	checkFind(t, made, 0, 0, 0, [3]uint32{1})
	empty := avtab.New(nil)
	if empty == nil || empty.Copy() == nil || empty.Len() != 0 {
		t.Error("the empty table is none")
	}
}

// P16.1 to P16.4: a table keeps no memory of its arguments, and its results share none with it or with each other.
func TestMemory(t *testing.T) {
	l := []api.Entry{{Source: 1, Target: 2, Allow: 1}, {Source: 1, Target: 1, Cond: 1, Allow: 2}, {Target: 2, Cond: -1, Allow: 2}}
	old := slices.Clone(l)
	x := avtab.New(l)
	checkEntries(t, "the argument", l, old)
	clear(l)
	values := []bool{true}
	x.Activate(values)
	values[0] = false
	want := avtab.New(old)
	want.Activate([]bool{true})
	checkSame(t, x, want)
	for range 2 {
		clear(x.Entries())
		clear(x.Visible())
		clear(x.Targets(1, 0, 0))
		clear(x.Sources(2, 0, 0))
		clear(x.Copy().Entries())
	}
	checkSame(t, x, want)
}

// P16.1, P16.2: a table with all pairs of types is quickly made and asked.
func TestManyEntries(t *testing.T) {
	var l []api.Entry
	for n := range 1 << 17 {
		l = append(l, api.Entry{Source: n % 256, Target: n / 256 % 256, Class: 3, Cond: n >> 16, Allow: 1 << (n >> 16)})
	}
	x := avtab.New(l)
	for _, state := range []struct {
		values []bool
		want   uint32
	}{{nil, 1}, {[]bool{true}, 3}} {
		x.Activate(state.values)
		for source := range 256 {
			for target := range 256 {
				checkFind(t, x, source, target, 3, [3]uint32{state.want})
			}
			if got := x.Targets(source, 3, state.want); len(got) != 256 || !slices.IsSorted(got) {
				t.Fatalf("Targets(%d): got %d numbers", source, len(got))
			}
			if got := x.Sources(source, 3, state.want); len(got) != 256 || !slices.IsSorted(got) {
				t.Fatalf("Sources(%d): got %d numbers", source, len(got))
			}
		}
	}
	if x.Len() != 1<<17 || len(x.Visible()) != 1<<16 {
		t.Errorf("got Len %d, and %d visible entries", x.Len(), len(x.Visible()))
	}
}
