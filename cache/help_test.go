package cache_test

import (
	"math"
	"slices"
	"testing"

	"accesscontrol/api"
	"accesscontrol/cache"
)

// key is a source, a target and a class.
type key = [3]int

// stats are hits, misses, evicted decisions and resets.
type stats = [4]int

// newCache returns a cache of a size.
func newCache(t *testing.T, size int) *cache.Cache {
	t.Helper()
	c := cache.New(size)
	if c == nil {
		t.Fatalf("New(%d) is nil", size)
	}
	return c
}

// some returns a decision that n and its number tell from others, with all fields.
func some(n, seq int) api.Decision {
	return api.Decision{Allowed: uint32(n), AuditAllow: uint32(n) + 1, AuditDeny: math.MaxUint32 - uint32(n), Permissive: n%2 == 0, Seq: seq}
}

func checkInsert(t *testing.T, c *cache.Cache, k key, d api.Decision, want api.Errno) {
	t.Helper()
	if got := c.Insert(k[0], k[1], k[2], d); got != want {
		t.Errorf("Insert(%v, %v): got %v, want %v", k, d, got, want)
	}
}

// checkFind checks the decision that is found; zero if there is none.
func checkFind(t *testing.T, c *cache.Cache, k key, want api.Decision, ok bool) {
	t.Helper()
	if got, found := c.Find(k[0], k[1], k[2]); got != want || found != ok {
		t.Errorf("Find(%v): got %v, %v, want %v, %v", k, got, found, want, ok)
	}
}

func checkReset(t *testing.T, c *cache.Cache, seq int, want api.Errno) {
	t.Helper()
	if got := c.Reset(seq); got != want {
		t.Errorf("Reset(%d): got %v, want %v", seq, got, want)
	}
}

// checkCache checks all that a cache says of itself.
func checkCache(t *testing.T, c *cache.Cache, seq int, keys []key, want stats) {
	t.Helper()
	if got := c.Keys(); !slices.Equal(got, keys) {
		t.Errorf("Keys: got %v, want %v", got, keys)
	}
	if got := c.Len(); got != len(keys) {
		t.Errorf("Len: got %d, want %d", got, len(keys))
	}
	if got := c.Seq(); got != seq {
		t.Errorf("Seq: got %d, want %d", got, seq)
	}
	hits, misses, evicted, resets := c.Stats()
	if got := (stats{hits, misses, evicted, resets}); got != want {
		t.Errorf("Stats: got %v, want %v", got, want)
	}
}

// checkStored checks the decisions of a cache, without changing it.
func checkStored(t *testing.T, c *cache.Cache, want map[key]api.Decision) {
	t.Helper()
	if c.Len() != len(want) {
		t.Errorf("Len: got %d, want %d", c.Len(), len(want))
	}
	c = c.Copy()
	for k, d := range want {
		checkFind(t, c, k, d, true)
	}
}

// picker picks numbers below its argument, by a rule that the seed begins.
type picker func(int) int

func newPicker(seed int) picker {
	state := uint32(seed)
	return func(n int) int {
		state = state*1664525 + 1013904223
		return int(state>>16) % n
	}
}
