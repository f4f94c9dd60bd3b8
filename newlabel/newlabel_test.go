package newlabel_test

import (
	"math"
	"testing"

	"accesscontrol/api"
	"accesscontrol/bitset"
	"accesscontrol/newlabel"
)

// transitions has all that matters to Type. The types a, b, c are 0, 1, 2, the classes file, process, dir likewise.
const transitions = base + `
type_transition a b : file c;
type_transition a b : file a "log";
type_transition { a b } { b c } : file b;
type_transition a b : file b "log";
type_transition a b : dir b "log";
type_change a b : file a; type_change a b : file b;
type_member a b : file b;
if p { type_transition b a : file c; } else { type_transition b a : file a "log"; }
type_transition b a : file b;
if q { type_transition b a : file b "tmp"; type_change b a : file a; }
type_transition c c : { file dir } a;
`

// P21.1: the first transition with the name, and otherwise the first one without a name.
func TestType(t *testing.T) {
	p := policy(t, transitions)
	for _, x := range []struct {
		kind, source, target, class int
		name                        string
		want                        int
	}{
		{api.TransCreate, 0, 1, 0, "", 2},
		{api.TransCreate, 0, 1, 0, "other", 2},
		{api.TransCreate, 0, 1, 0, "log", 0},
		{api.TransCreate, 0, 1, 0, "Log", 2},
		{api.TransCreate, 0, 1, 0, "log ", 2},
		{api.TransCreate, 0, 1, 0, "lo", 2},
		{api.TransCreate, 0, 2, 0, "log", 1},
		{api.TransCreate, 1, 1, 0, "", 1},
		{api.TransCreate, 1, 2, 0, "\x00/\xff", 1},
		{api.TransCreate, 0, 0, 0, "log", -1},
		{api.TransCreate, 2, 1, 0, "log", -1},
		{api.TransCreate, 1, 0, 0, "", 1},
		{api.TransCreate, 0, 1, 2, "log", 1},
		{api.TransCreate, 0, 1, 2, "", -1},
		{api.TransCreate, 0, 1, 2, "other", -1},
		{api.TransCreate, 0, 1, 1, "log", -1},
		{api.TransCreate, 2, 2, 0, "", 0},
		{api.TransCreate, 2, 2, 2, "", 0},
		{api.TransCreate, 2, 2, 1, "", -1},
		{api.TransChange, 0, 1, 0, "", 0},
		{api.TransChange, 0, 1, 0, "log", 0},
		{api.TransChange, 1, 1, 0, "", -1},
		{api.TransChange, 0, 1, 2, "log", -1},
		{api.TransMember, 0, 1, 0, "log", 1},
		{api.TransMember, 1, 0, 0, "", -1},
		{0, 0, 1, 0, "", -1}, {4, 0, 1, 0, "", -1}, {-1, 0, 1, 0, "", -1}, {math.MaxInt, 0, 1, 0, "log", -1}, {math.MinInt, 0, 1, 0, "", -1},
		{api.TransCreate, -1, 1, 0, "", -1}, {api.TransCreate, 3, 1, 0, "", -1}, {api.TransCreate, 256, 1, 0, "", -1}, {api.TransCreate, math.MinInt, math.MaxInt, 0, "log", -1},
		{api.TransCreate, 0, -1, 0, "", -1}, {api.TransCreate, 0, 257, 0, "log", -1}, {api.TransCreate, math.MaxInt, math.MinInt, 0, "", -1},
		{api.TransCreate, 0, 1, -1, "", -1}, {api.TransCreate, 0, 1, 3, "log", -1}, {api.TransCreate, 0, 1, math.MaxInt, "", -1}, {api.TransCreate, 0, 1, math.MinInt, "", -1},
	} {
		got, ok := newlabel.Type(p, nil, x.kind, x.source, x.target, x.class, x.name)
		if got != max(x.want, 0) || ok != (x.want >= 0) {
			t.Errorf("Type(%d, %d, %d, %d, %q): got %d, %v, want %d", x.kind, x.source, x.target, x.class, x.name, got, ok, x.want)
		}
	}
	if got, ok := newlabel.Type(api.Policy{}, nil, api.TransCreate, 0, 0, 0, ""); got != 0 || ok {
		t.Errorf("without transitions: got %d, %v", got, ok)
	}
}

// P21.1: only active transitions apply, in states of any length.
func TestTypeInStates(t *testing.T) {
	p := policy(t, transitions)
	for _, x := range []struct {
		state []bool
		kind  int
		name  string
		want  int
	}{
		{nil, api.TransCreate, "", 1},
		{nil, api.TransCreate, "log", 0},
		{nil, api.TransCreate, "tmp", 1},
		{nil, api.TransChange, "", -1},
		{[]bool{true}, api.TransCreate, "", 2},
		{[]bool{true}, api.TransCreate, "log", 2},
		{[]bool{true}, api.TransCreate, "tmp", 2},
		{[]bool{true}, api.TransChange, "", -1},
		{[]bool{true, true}, api.TransCreate, "tmp", 1},
		{[]bool{true, true, false}, api.TransCreate, "log", 2},
		{[]bool{false, true, true, true}, api.TransCreate, "log", 0},
		{[]bool{false, true}, api.TransChange, "", 0},
	} {
		got, ok := newlabel.Type(p, x.state, x.kind, 1, 0, 0, x.name)
		if got != max(x.want, 0) || ok != (x.want >= 0) {
			t.Errorf("Type(%v, %d, %q): got %d, %v, want %d", x.state, x.kind, x.name, got, ok, x.want)
		}
	}
}

// P21.2: the first role transition.
func TestRole(t *testing.T) {
	p := policy(t, base+`
role_transition r1 b : process r2;
role_transition { r1 r2 } { b c } : process r3;
role_transition r1 a : { file process } r1;
role_transition r3 a : file r1;`)
	for _, x := range []struct{ role, target, class, want int }{
		{1, 1, 1, 2}, {1, 2, 1, 3}, {2, 1, 1, 3}, {2, 2, 1, 3}, {1, 0, 1, 1}, {1, 0, 0, 1}, {3, 0, 0, 1},
		{1, 0, 2, 0}, {2, 0, 1, 0}, {3, 0, 1, 0}, {3, 1, 1, 0}, {1, 1, 0, 0}, {0, 0, 0, 0}, {0, 1, 1, 0},
		{4, 1, 1, 0}, {-1, 1, 1, 0}, {257, 1, 1, 0}, {math.MaxInt, 1, 1, 0}, {math.MinInt, 1, 1, 0},
		{1, 3, 1, 0}, {1, -1, 1, 0}, {1, 256, 1, 0}, {1, math.MaxInt, 1, 0}, {1, math.MinInt, 1, 0},
		{1, 1, 3, 0}, {1, 1, -1, 0}, {1, 1, math.MaxInt, 0}, {1, 1, math.MinInt, 0},
	} {
		if got, ok := newlabel.Role(p, x.role, x.target, x.class); got != x.want || ok != (x.want > 0) {
			t.Errorf("Role(%d, %d, %d): got %d, %v, want %d", x.role, x.target, x.class, got, ok, x.want)
		}
	}
	if got, ok := newlabel.Role(api.Policy{}, 0, 0, 0); got != 0 || ok {
		t.Errorf("without transitions: got %d, %v", got, ok)
	}
}

// P21.2: the first range transition.
func TestRange(t *testing.T) {
	p := policy(t, base+`
range_transition a b : file s0;
range_transition { a b } { b c } : file s0:c0-s1:c0;
range_transition a a : { process dir } s1;`)
	low, wide, high := api.Range{}, api.Range{Low: api.Level{Cats: 1}, High: api.Level{Sens: 1, Cats: 1}}, api.Range{Low: api.Level{Sens: 1}, High: api.Level{Sens: 1}}
	for _, x := range []struct {
		source, target, class int
		want                  api.Range
		ok                    bool
	}{
		{0, 1, 0, low, true}, {0, 2, 0, wide, true}, {1, 1, 0, wide, true}, {1, 2, 0, wide, true}, {0, 0, 1, high, true}, {0, 0, 2, high, true},
		{0, 0, 0, low, false}, {1, 0, 0, low, false}, {2, 2, 0, low, false}, {0, 2, 1, low, false}, {1, 1, 2, low, false},
		{-1, 2, 0, low, false}, {3, 2, 0, low, false}, {256, 2, 0, low, false}, {math.MaxInt, 2, 0, low, false}, {math.MinInt, 2, 0, low, false},
		{0, -1, 0, low, false}, {0, 3, 0, low, false}, {0, 258, 0, low, false}, {0, math.MaxInt, 0, low, false}, {0, math.MinInt, 0, low, false},
		{0, 2, 3, low, false}, {0, 2, -1, low, false}, {0, 2, math.MaxInt, low, false}, {0, 2, math.MinInt, low, false},
	} {
		if got, ok := newlabel.Range(p, x.source, x.target, x.class); got != x.want || ok != x.ok {
			t.Errorf("Range(%d, %d, %d): got %v, %v, want %v", x.source, x.target, x.class, got, ok, x.want)
		}
	}
	if got, ok := newlabel.Range(api.Policy{}, 0, 0, 0); got != low || ok {
		t.Errorf("without transitions: got %v, %v", got, ok)
	}
}

// P21.1, P21.2: transitions of types with large numbers.
func TestManyTypes(t *testing.T) {
	last := bitset.Of(api.MaxTypes - 1)
	p := api.Policy{
		Types:     make([]api.Type, api.MaxTypes),
		Trans:     []api.Trans{{Kind: api.TransMember, Source: last, Target: bitset.Of(64), Class: 31, Result: 255}},
		RoleTrans: []api.RoleTrans{{Roles: bitset.Of(31), Types: last, Class: 31, Result: 30}},
		Ranges:    []api.RangeTrans{{Source: bitset.Of(64), Target: last, Class: 31, Range: api.Range{High: api.Level{Sens: 15, Cats: math.MaxUint64}}}},
	}
	if got, ok := newlabel.Type(p, nil, api.TransMember, 255, 64, 31, "any"); got != 255 || !ok {
		t.Errorf("Type: got %d, %v", got, ok)
	}
	if got, ok := newlabel.Role(p, 31, 255, 31); got != 30 || !ok {
		t.Errorf("Role: got %d, %v", got, ok)
	}
	if got, ok := newlabel.Range(p, 64, 255, 31); got != p.Ranges[0].Range || !ok {
		t.Errorf("Range: got %v, %v", got, ok)
	}
	if _, ok := newlabel.Type(p, nil, api.TransMember, 64, 255, 31, "any"); ok {
		t.Errorf("the source is the target")
	}
}
