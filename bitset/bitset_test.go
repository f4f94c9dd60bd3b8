package bitset_test

import (
	"math"
	"slices"
	"testing"

	"accesscontrol/api"
	"accesscontrol/bitset"
)

// outside are numbers that no set has as an element. The greater ones would be elements if a number were taken modulo 64 or 256.
var outside = []int{-1, -2, -63, -64, -65, -192, -193, -255, -256, -257, 256, 257, 319, 320, 511, 512, 1 << 32, math.MinInt, math.MinInt + 1, math.MinInt + 64, math.MaxInt, math.MaxInt - 1}

// samples are sets with elements in each word, at the ends of words, and in none.
func samples() []api.Set {
	return []api.Set{
		{},
		{1},
		{1 << 63},
		{0, 1},
		{0, 0, 1},
		{0, 0, 0, 1 << 63},
		{8, 1},
		{1<<64 - 1},
		{1<<64 - 1, 1<<64 - 1, 1<<64 - 1, 1<<64 - 1},
		{1<<64 - 1, 1<<64 - 1, 1<<64 - 1, 1<<63 - 1},
		{0x5555555555555555, 0x5555555555555555, 0x5555555555555555, 0x5555555555555555},
		{0x8000000000000001, 0x8000000000000001, 0x8000000000000001, 0x8000000000000001},
		{0, 0xF0F0F0F0F0F0F0F0, 0x0123456789ABCDEF, 0},
	}
}

// members tells by the definition of api.Set which numbers a set has.
func members(s api.Set) [256]bool {
	var in [256]bool
	for n := range in {
		in[n] = s[n/64]/(1<<(n%64))%2 == 1
	}
	return in
}

// P1.1: Has.
func TestHas(t *testing.T) {
	for _, s := range samples() {
		for n, want := range members(s) {
			if got := bitset.Has(s, n); got != want {
				t.Errorf("Has(%x, %d): got %v", s, n, got)
			}
		}
		for _, n := range outside {
			if bitset.Has(s, n) {
				t.Errorf("Has(%x, %d): got true", s, n)
			}
		}
	}
}

// P1.1: With and Without.
func TestWithWithout(t *testing.T) {
	for _, s := range samples() {
		for n := range 256 {
			want := members(s)
			want[n] = true
			if got := bitset.With(s, n); members(got) != want {
				t.Errorf("With(%x, %d): got %x", s, n, got)
			}
			want[n] = false
			if got := bitset.Without(s, n); members(got) != want {
				t.Errorf("Without(%x, %d): got %x", s, n, got)
			}
		}
		for _, n := range outside {
			if got := bitset.With(s, n); got != s {
				t.Errorf("With(%x, %d): got %x", s, n, got)
			}
			if got := bitset.Without(s, n); got != s {
				t.Errorf("Without(%x, %d): got %x", s, n, got)
			}
		}
	}
}

// P1.1: Of.
func TestOf(t *testing.T) {
	for n := range 256 {
		var want [256]bool
		want[n] = true
		if got := bitset.Of(n); members(got) != want {
			t.Errorf("Of(%d): got %x", n, got)
		}
	}
	for _, x := range []struct {
		l    []int
		want api.Set
	}{
		{nil, api.Set{}},
		{[]int{}, api.Set{}},
		{outside, api.Set{}},
		{[]int{3, 64, -1, 256, 3}, api.Set{8, 1}},
		{[]int{256, 255, -1, 0, 192, 191}, api.Set{1, 0, 1 << 63, 1<<63 | 1}},
		{[]int{5, 4, 4, 5}, api.Set{0x30}},
	} {
		l := slices.Clone(x.l)
		if got := bitset.Of(l...); got != x.want {
			t.Errorf("Of(%v): got %x, want %x", x.l, got, x.want)
		}
		if !slices.Equal(l, x.l) {
			t.Errorf("Of changed its argument %v to %v", x.l, l)
		}
	}
	if got := bitset.Of(); got != (api.Set{}) {
		t.Errorf("Of(): got %x", got)
	}
}

// P1.1: All.
func TestAll(t *testing.T) {
	for n := range 257 {
		var want [256]bool
		for m := range n {
			want[m] = true
		}
		if got := bitset.All(n); members(got) != want {
			t.Errorf("All(%d): got %x", n, got)
		}
	}
	full := api.Set{1<<64 - 1, 1<<64 - 1, 1<<64 - 1, 1<<64 - 1}
	for _, n := range append(outside, -5, 1000) {
		want := api.Set{}
		if n > 0 {
			want = full
		}
		if got := bitset.All(n); got != want {
			t.Errorf("All(%d): got %x", n, got)
		}
	}
	if got := bitset.All(65); got != (api.Set{1<<64 - 1, 1}) {
		t.Errorf("All(65): got %x", got)
	}
}

// P1.2: Union, Meet, Minus and Within.
func TestOperations(t *testing.T) {
	for _, a := range samples() {
		for _, b := range samples() {
			inA, inB := members(a), members(b)
			var union, meet, minus [256]bool
			within := true
			for n := range 256 {
				union[n] = inA[n] || inB[n]
				meet[n] = inA[n] && inB[n]
				minus[n] = inA[n] && !inB[n]
				within = within && (inB[n] || !inA[n])
			}
			if got := bitset.Union(a, b); members(got) != union {
				t.Errorf("Union(%x, %x): got %x", a, b, got)
			}
			if got := bitset.Meet(a, b); members(got) != meet {
				t.Errorf("Meet(%x, %x): got %x", a, b, got)
			}
			if got := bitset.Minus(a, b); members(got) != minus {
				t.Errorf("Minus(%x, %x): got %x", a, b, got)
			}
			if got := bitset.Within(a, b); got != within {
				t.Errorf("Within(%x, %x): got %v", a, b, got)
			}
		}
	}
}

// P1.3: Count, Least and List.
func TestLists(t *testing.T) {
	for _, s := range samples() {
		var want []int
		for n, in := range members(s) {
			if in {
				want = append(want, n)
			}
		}
		if got := bitset.List(s); !slices.Equal(got, want) {
			t.Errorf("List(%x): got %v, want %v", s, got, want)
		}
		if got := bitset.Count(s); got != len(want) {
			t.Errorf("Count(%x): got %d, want %d", s, got, len(want))
		}
		least := -1
		if len(want) > 0 {
			least = want[0]
		}
		if got := bitset.Least(s); got != least {
			t.Errorf("Least(%x): got %d, want %d", s, got, least)
		}
	}
	for n := range 256 {
		var s api.Set
		s[n/64] = 1 << (n % 64)
		if l := bitset.List(s); bitset.Least(s) != n || bitset.Count(s) != 1 || !slices.Equal(l, []int{n}) {
			t.Errorf("the set of %d: Least %d, Count %d, List %v", n, bitset.Least(s), bitset.Count(s), l)
		}
	}
}

// P1.3: a list is new memory.
func TestListIsNew(t *testing.T) {
	s := bitset.Of(1, 2)
	bitset.List(s)[0] = 9
	if got := bitset.List(s); !slices.Equal(got, []int{1, 2}) {
		t.Errorf("List after a write to an earlier list: got %v", got)
	}
}

// P1.4: sets with the same elements are equal, however they came about; others are not.
func TestEqual(t *testing.T) {
	for i, a := range samples() {
		if got := bitset.Of(bitset.List(a)...); got != a {
			t.Errorf("Of(List(%x)): got %x", a, got)
		}
		l := bitset.List(a)
		slices.Reverse(l)
		if got := bitset.Of(l...); got != a {
			t.Errorf("Of of the reversed list of %x: got %x", a, got)
		}
		for j, b := range samples() {
			if equal := slices.Equal(bitset.List(a), bitset.List(b)); equal != (a == b) || equal != (i == j) {
				t.Errorf("%x and %x: equal lists %v, equal values %v", a, b, equal, a == b)
			}
		}
	}
}

// P1.4: the laws of two sets.
func TestLawsOfTwo(t *testing.T) {
	for _, a := range samples() {
		for _, b := range samples() {
			union, meet, minus := bitset.Union(a, b), bitset.Meet(a, b), bitset.Minus(a, b)
			if union != bitset.Union(b, a) || meet != bitset.Meet(b, a) {
				t.Errorf("%x, %x: not commutative", a, b)
			}
			if bitset.Meet(minus, meet) != (api.Set{}) || bitset.Union(minus, meet) != a {
				t.Errorf("%x, %x: Minus and Meet do not divide the first one", a, b)
			}
			if bitset.Count(union)+bitset.Count(meet) != bitset.Count(a)+bitset.Count(b) {
				t.Errorf("%x, %x: the counts differ", a, b)
			}
		}
	}
}

// P1.4: the laws of three sets.
func TestLawsOfThree(t *testing.T) {
	for _, a := range samples() {
		for _, b := range samples() {
			for _, c := range samples() {
				if bitset.Union(a, bitset.Union(b, c)) != bitset.Union(bitset.Union(a, b), c) ||
					bitset.Meet(a, bitset.Meet(b, c)) != bitset.Meet(bitset.Meet(a, b), c) {
					t.Errorf("%x, %x, %x: not associative", a, b, c)
				}
				if bitset.Union(a, bitset.Meet(b, c)) != bitset.Meet(bitset.Union(a, b), bitset.Union(a, c)) ||
					bitset.Meet(a, bitset.Union(b, c)) != bitset.Union(bitset.Meet(a, b), bitset.Meet(a, c)) {
					t.Errorf("%x, %x, %x: not distributive", a, b, c)
				}
			}
		}
	}
}
