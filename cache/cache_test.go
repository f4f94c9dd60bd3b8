package cache_test

import (
	"math"
	"slices"
	"testing"

	"accesscontrol/api"
	"accesscontrol/cache"
)

// P28.1: the sizes that a cache can have.
func TestNew(t *testing.T) {
	for _, size := range []int{1, 2, 3, 16, 512, 1023, 1024} {
		checkCache(t, newCache(t, size), 0, nil, stats{})
	}
	for _, size := range []int{0, -1, -1024, 1025, 1026, 1 << 20, math.MaxInt, math.MinInt} {
		if cache.New(size) != nil {
			t.Errorf("New(%d) is a cache", size)
		}
	}
}

// P28.1, P28.3: a cache holds as many decisions as its size.
func TestSize(t *testing.T) {
	for _, size := range []int{1, 2, 3, 16, 1023, 1024} {
		c := newCache(t, size)
		var keys []key
		for n := range size {
			checkInsert(t, c, key{n, -n, 7}, some(n, n), api.OK)
			keys = append(keys, key{n, -n, 7})
		}
		slices.Reverse(keys)
		checkCache(t, c, 0, keys, stats{})
		checkInsert(t, c, key{size, 0, 0}, some(1, 0), api.OK)
		checkCache(t, c, 0, append([]key{{size, 0, 0}}, keys[:size-1]...), stats{2: 1})
		checkFind(t, c, key{0, 0, 7}, api.Decision{}, false)
	}
}

// P28.2: what is found becomes the last used one; what is not found changes nothing but misses.
func TestFind(t *testing.T) {
	c := newCache(t, 3)
	a, b, d := key{1, 2, 3}, key{3, 2, 1}, key{2, 2, 2}
	checkFind(t, c, a, api.Decision{}, false)
	checkCache(t, c, 0, nil, stats{0, 1})
	for n, k := range []key{a, b, d} {
		checkInsert(t, c, k, some(n, n), api.OK)
	}
	checkCache(t, c, 0, []key{d, b, a}, stats{0, 1})
	checkFind(t, c, a, some(0, 0), true)
	checkCache(t, c, 0, []key{a, d, b}, stats{1, 1})
	checkFind(t, c, d, some(2, 2), true)
	checkCache(t, c, 0, []key{d, a, b}, stats{2, 1})
	checkFind(t, c, d, some(2, 2), true)
	checkCache(t, c, 0, []key{d, a, b}, stats{3, 1})
	for n, k := range []key{{1, 3, 2}, {2, 1, 3}, {1, 2, 4}, {1, 2, -3}, {-1, 2, 3}, {}} {
		checkFind(t, c, k, api.Decision{}, false)
		checkCache(t, c, 0, []key{d, a, b}, stats{3, 2 + n})
	}
	checkFind(t, c, b, some(1, 1), true)
	checkCache(t, c, 0, []key{b, d, a}, stats{4, 7})
}

// P28.2, P28.3: any numbers are keys, and any decision is stored, also one without permissions.
func TestKeys(t *testing.T) {
	numbers := []int{0, 1, -1, 255, 1 << 32, math.MaxInt, math.MinInt}
	c := newCache(t, 1024)
	want := map[key]api.Decision{}
	var keys []key
	for i, source := range numbers {
		for j, target := range numbers {
			for l, class := range numbers {
				k, d := key{source, target, class}, some(100*i+10*j+l, l)
				checkFind(t, c, k, api.Decision{}, false)
				checkInsert(t, c, k, d, api.OK)
				want[k] = d
				keys = slices.Insert(keys, 0, k)
			}
		}
	}
	checkStored(t, c, want)
	checkCache(t, c, 0, keys, stats{0, 343})
	checkInsert(t, c, key{}, api.Decision{}, api.OK)
	checkFind(t, c, key{}, api.Decision{}, true)
}

// P28.3: a decision replaces the one of its key, also in a full cache, and nothing is removed.
func TestReplace(t *testing.T) {
	c := newCache(t, 2)
	a, b := key{1, 1, 1}, key{2, 2, 2}
	checkInsert(t, c, a, some(1, 5), api.OK)
	checkInsert(t, c, a, some(2, 4), api.OK)
	checkCache(t, c, 0, []key{a}, stats{})
	checkStored(t, c, map[key]api.Decision{a: some(2, 4)})
	checkInsert(t, c, b, some(3, 0), api.OK)
	checkInsert(t, c, a, some(4, 0), api.OK)
	checkCache(t, c, 0, []key{a, b}, stats{})
	checkInsert(t, c, a, some(5, 0), api.OK)
	checkCache(t, c, 0, []key{a, b}, stats{})
	checkStored(t, c, map[key]api.Decision{a: some(5, 0), b: some(3, 0)})
	one := newCache(t, 1)
	for n := range 3 {
		checkInsert(t, one, a, some(n, n), api.OK)
		checkCache(t, one, 0, []key{a}, stats{})
	}
	checkInsert(t, one, b, some(6, 0), api.OK)
	checkCache(t, one, 0, []key{b}, stats{2: 1})
	checkFind(t, one, a, api.Decision{}, false)
	checkFind(t, one, b, some(6, 0), true)
	checkInsert(t, one, a, some(7, 0), api.OK)
	checkCache(t, one, 0, []key{a}, stats{1, 1, 2})
}

// P28.3: the first example, and what is evicted after it.
func TestEvict(t *testing.T) {
	c := newCache(t, 2)
	for n := 1; n <= 2; n++ {
		checkInsert(t, c, key{n, n, n}, some(n, 0), api.OK)
	}
	checkFind(t, c, key{1, 1, 1}, some(1, 0), true)
	checkInsert(t, c, key{3, 3, 3}, some(3, 0), api.OK)
	checkCache(t, c, 0, []key{{3, 3, 3}, {1, 1, 1}}, stats{1, 0, 1})
	checkFind(t, c, key{2, 2, 2}, api.Decision{}, false)
	checkInsert(t, c, key{1, 1, 1}, some(4, 0), api.OK)
	checkInsert(t, c, key{2, 2, 2}, some(5, 0), api.OK)
	checkCache(t, c, 0, []key{{2, 2, 2}, {1, 1, 1}}, stats{1, 1, 2})
	checkFind(t, c, key{3, 3, 3}, api.Decision{}, false)
	checkFind(t, c, key{1, 1, 1}, some(4, 0), true)
}

// P28.3: a decision with a Seq that is less than that of the cache changes nothing; others, also later ones, are stored.
func TestStaleDecisions(t *testing.T) {
	c := newCache(t, 2)
	a, b, d := key{1, 1, 1}, key{2, 2, 2}, key{3, 3, 3}
	for _, seq := range []int{-1, -7, math.MinInt} {
		checkInsert(t, c, a, some(1, seq), api.ErrStale)
	}
	checkCache(t, c, 0, nil, stats{})
	checkReset(t, c, 5, api.OK)
	checkInsert(t, c, a, some(1, 5), api.OK)
	checkInsert(t, c, b, some(2, 9), api.OK)
	checkCache(t, c, 5, []key{b, a}, stats{3: 1})
	for _, seq := range []int{4, 0, -5, math.MinInt} {
		for _, k := range []key{a, b, d} {
			checkInsert(t, c, k, some(3, seq), api.ErrStale)
		}
	}
	checkCache(t, c, 5, []key{b, a}, stats{3: 1})
	checkStored(t, c, map[key]api.Decision{a: some(1, 5), b: some(2, 9)})
	checkInsert(t, c, d, some(4, 6), api.OK) // a Seq that is less than that of another decision is none that is less than that of the cache
	checkInsert(t, c, b, some(5, math.MaxInt), api.OK)
	checkCache(t, c, 5, []key{b, d}, stats{2: 1, 3: 1})
}

// P28.4: Reset removes all decisions, and none of them counts as evicted; the second example.
func TestReset(t *testing.T) {
	c := newCache(t, 2)
	a, b, d := key{1, 1, 1}, key{2, 2, 2}, key{3, 3, 3}
	for n, k := range []key{a, b, d} {
		checkInsert(t, c, k, some(n, 5+n), api.OK)
	}
	checkFind(t, c, b, some(1, 6), true)
	checkFind(t, c, a, api.Decision{}, false)
	checkCache(t, c, 0, []key{b, d}, stats{1, 1, 1})
	checkReset(t, c, 5, api.OK)
	checkCache(t, c, 5, nil, stats{1, 1, 1, 1})
	checkFind(t, c, b, api.Decision{}, false) // although its Seq was greater
	checkInsert(t, c, a, some(1, 4), api.ErrStale)
	checkReset(t, c, 4, api.ErrStale)
	checkCache(t, c, 5, nil, stats{1, 2, 1, 1})
	for n, k := range []key{a, b, d} {
		checkInsert(t, c, k, some(n, 5), api.OK)
	}
	checkCache(t, c, 5, []key{d, b}, stats{1, 2, 2, 1})
	for _, seq := range []int{4, 0, -1, math.MinInt} {
		checkReset(t, c, seq, api.ErrStale)
		checkCache(t, c, 5, []key{d, b}, stats{1, 2, 2, 1})
	}
	checkReset(t, c, 5, api.OK)
	checkCache(t, c, 5, nil, stats{1, 2, 2, 2})
	checkReset(t, c, math.MaxInt, api.OK)
	checkInsert(t, c, a, some(1, math.MaxInt-1), api.ErrStale)
	checkInsert(t, c, a, some(1, math.MaxInt), api.OK)
	checkReset(t, c, math.MaxInt-1, api.ErrStale)
	checkCache(t, c, math.MaxInt, []key{a}, stats{1, 2, 2, 3})
}

// P28.4: a new cache has the number 0.
func TestResetAtFirst(t *testing.T) {
	c := newCache(t, 3)
	checkReset(t, c, -1, api.ErrStale)
	checkReset(t, c, math.MinInt, api.ErrStale)
	checkCache(t, c, 0, nil, stats{})
	checkReset(t, c, 0, api.OK)
	checkCache(t, c, 0, nil, stats{3: 1})
}

// P28.5: a copy has the same contents, numbers and order, and neither cache affects the other one.
func TestCopy(t *testing.T) {
	c := newCache(t, 3)
	a, b, d, e := key{1, 1, 1}, key{2, 2, 2}, key{3, 3, 3}, key{4, 4, 4}
	checkReset(t, c, 2, api.OK)
	for n, k := range []key{e, a, b, d} {
		checkInsert(t, c, k, some(n, 2), api.OK)
	}
	checkFind(t, c, e, api.Decision{}, false)
	checkFind(t, c, a, some(1, 2), true)
	same := stats{1, 1, 1, 1}
	x, y := c.Copy(), c.Copy()
	for _, z := range []*cache.Cache{c, x, y} {
		checkCache(t, z, 2, []key{a, d, b}, same)
	}
	checkFind(t, x, b, some(2, 2), true)
	checkInsert(t, x, e, some(9, 3), api.OK)
	checkInsert(t, x, a, some(8, 3), api.OK)
	checkCache(t, x, 2, []key{a, e, b}, stats{2, 1, 2, 1})
	checkReset(t, y, 7, api.OK)
	checkFind(t, y, a, api.Decision{}, false)
	checkCache(t, y, 7, nil, stats{1, 2, 1, 2})
	checkCache(t, c, 2, []key{a, d, b}, same)
	checkStored(t, c, map[key]api.Decision{a: some(1, 2), d: some(3, 2), b: some(2, 2)})
	z := c.Copy().Copy()
	checkReset(t, c, 3, api.OK)
	checkInsert(t, c, b, some(7, 3), api.OK)
	checkCache(t, z, 2, []key{a, d, b}, same)
	checkStored(t, z, map[key]api.Decision{a: some(1, 2), d: some(3, 2), b: some(2, 2)})
	checkInsert(t, z, e, some(6, 2), api.OK) // the copy has the size
	checkCache(t, z, 2, []key{e, a, d}, stats{1, 1, 2, 1})
	checkCache(t, newCache(t, 4).Copy(), 0, nil, stats{})
}

// P28.5: Keys are new memory.
func TestMemory(t *testing.T) {
	c := newCache(t, 3)
	want := map[key]api.Decision{}
	for n := range 3 {
		checkInsert(t, c, key{n, n, n}, some(n, 0), api.OK)
		want[key{n, n, n}] = some(n, 0)
	}
	for range 2 {
		l := c.Keys()
		clear(l)
		_ = append(l[:1], key{9, 9, 9})
	}
	checkCache(t, c, 0, []key{{2, 2, 2}, {1, 1, 1}, {}}, stats{})
	checkStored(t, c, want)
}

// Methods of no cache: ErrNil comes first, and nothing changes.
func TestNoCache(t *testing.T) {
	c := newCache(t, 2)
	checkInsert(t, c, key{1, 1, 1}, some(1, 0), api.OK)
	checkReset(t, c, 3, api.OK)
	checkInsert(t, c, key{1, 1, 1}, some(1, 3), api.OK)
	assigned := *c
	for _, x := range []*cache.Cache{nil, {}, new(cache.Cache), &assigned} {
		for _, k := range []key{{1, 1, 1}, {2, 2, 2}, {}} {
			checkFind(t, x, k, api.Decision{}, false)
			checkInsert(t, x, k, some(2, 3), api.ErrNil)
			checkInsert(t, x, k, some(2, -1), api.ErrNil)
		}
		checkReset(t, x, 9, api.ErrNil)
		checkReset(t, x, -9, api.ErrNil)
		checkCache(t, x, 0, nil, stats{})
		if x.Copy() != nil {
			t.Errorf("Copy of no cache is a cache")
		}
	}
	checkCache(t, c, 3, []key{{1, 1, 1}}, stats{3: 1})
	checkStored(t, c, map[key]api.Decision{{1, 1, 1}: some(1, 3)})
}

// P28.2, P28.3: a cache of the largest size is quickly asked, and keeps what was used lately.
func TestManyDecisions(t *testing.T) {
	const count, lately = 1 << 18, 500
	c := newCache(t, 1024)
	for n := range count {
		checkInsert(t, c, key{n, 1, 1}, some(n, 0), api.OK)
		old := max(0, n-lately)
		if d, ok := c.Find(old, 1, 1); d != some(old, 0) || !ok {
			t.Fatalf("Find of %d after %d: got %v, %v", old, n, d, ok)
		}
	}
	checkFind(t, c, key{count - 2*1024, 1, 1}, api.Decision{}, false)
	hits, misses, evicted, resets := c.Stats()
	if c.Len() != 1024 || hits != count || misses != 1 || evicted != count-1024 || resets != 0 {
		t.Errorf("got Len %d, Stats %d, %d, %d, %d", c.Len(), hits, misses, evicted, resets)
	}
}
