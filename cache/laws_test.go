package cache_test

import (
	"slices"
	"testing"

	"accesscontrol/api"
	"accesscontrol/cache"
)

// model is a cache by the definition: the decisions in the order of use, the last used one first.
type model struct {
	size, seq int
	stored    []stored
	stats     stats
}

type stored struct {
	key key
	d   api.Decision
}

func (m *model) place(k key) int {
	return slices.IndexFunc(m.stored, func(s stored) bool { return s.key == k })
}

func (m *model) find(k key) (api.Decision, bool) {
	at := m.place(k)
	if at < 0 {
		m.stats[1]++
		return api.Decision{}, false
	}
	m.stats[0]++
	s := m.stored[at]
	m.stored = slices.Insert(slices.Delete(m.stored, at, at+1), 0, s)
	return s.d, true
}

func (m *model) insert(k key, d api.Decision) api.Errno {
	if d.Seq < m.seq {
		return api.ErrStale
	}
	if at := m.place(k); at >= 0 {
		m.stored = slices.Delete(m.stored, at, at+1)
	} else if len(m.stored) == m.size {
		m.stored = m.stored[:m.size-1]
		m.stats[2]++
	}
	m.stored = slices.Insert(m.stored, 0, stored{k, d})
	return api.OK
}

func (m *model) reset(seq int) api.Errno {
	if seq < m.seq {
		return api.ErrStale
	}
	m.stored, m.seq = nil, seq
	m.stats[3]++
	return api.OK
}

func (m *model) keys() []key {
	var l []key
	for _, s := range m.stored {
		l = append(l, s.key)
	}
	return l
}

func (m *model) copy() *model {
	c := *m
	c.stored = slices.Clone(m.stored)
	return &c
}

// pair is a cache, and the model that it should agree with.
type pair struct {
	c *cache.Cache
	m *model
}

func newPair(t *testing.T, size int) pair {
	t.Helper()
	return pair{newCache(t, size), &model{size: size}}
}

func (p pair) copy() pair { return pair{p.c.Copy(), p.m.copy()} }

// act calls a method with arguments that are picked, of both.
func (p pair) act(t *testing.T, pick picker, n int) {
	t.Helper()
	k := key{pick(4) - 1, pick(3), pick(2)}
	switch pick(16) {
	case 0:
		seq := p.m.seq + pick(4) - 1
		checkReset(t, p.c, seq, p.m.reset(seq))
	case 1, 2, 3, 4, 5, 6:
		d := some(n, p.m.seq+pick(8)-1)
		checkInsert(t, p.c, k, d, p.m.insert(k, d))
	default:
		d, ok := p.m.find(k)
		checkFind(t, p.c, k, d, ok)
	}
}

func (p pair) check(t *testing.T) {
	t.Helper()
	checkCache(t, p.c, p.m.seq, p.m.keys(), p.m.stats)
}

// P28.1 to P28.5: after each of many calls a cache says what the model says, and so does a copy.
func TestModel(t *testing.T) {
	var total stats
	for seed := range 200 {
		pick := newPicker(seed)
		p := newPair(t, 1+pick(12))
		other := p.copy()
		for n := range 200 {
			p.act(t, pick, n)
			p.check(t)
			if pick(20) == 0 {
				p, other = p.copy(), p
			}
			other.check(t)
		}
		for i, count := range p.m.stats {
			total[i] += count
		}
	}
	if slices.Min(total[:]) < 500 {
		t.Errorf("got only %v hits, misses, evicted decisions and resets", total)
	}
}

// P28.6: a cache never has more decisions than its size; after Reset no decision with a lesser Seq is found; what is found was inserted last.
func TestFoundIsInserted(t *testing.T) {
	found, later := 0, 0
	for seed := range 200 {
		pick := newPicker(seed)
		size := 1 + pick(6)
		c := newCache(t, size)
		inserted := map[key]api.Decision{}
		for n := range 300 {
			k := key{pick(3), pick(2), pick(2)}
			switch d := some(n, c.Seq()+pick(5)-1); pick(12) {
			case 0:
				if seq := c.Seq() + pick(3); c.Reset(seq) != api.OK || c.Len() != 0 || c.Seq() != seq {
					t.Errorf("Reset(%d): Len %d, Seq %d", seq, c.Len(), c.Seq())
				}
			case 1, 2, 3, 4:
				if c.Insert(k[0], k[1], k[2], d) == api.OK {
					inserted[k] = d
				}
			default:
				d, ok := c.Find(k[0], k[1], k[2])
				if ok && (d != inserted[k] || d.Seq < c.Seq()) {
					t.Errorf("Find(%v): got %v with Seq %d of the cache; %v was inserted", k, d, c.Seq(), inserted[k])
				}
				if ok {
					found++
				}
				if ok && d.Seq > c.Seq() {
					later++
				}
			}
			if c.Len() > size {
				t.Fatalf("%d decisions in a cache of size %d", c.Len(), size)
			}
		}
	}
	if found < 1000 || later < 500 {
		t.Errorf("%d decisions were found, %d of them later ones", found, later)
	}
}

// P28.6: the decisions that were used last are never removed first: what was used among the last keys, as many as the size, is found.
func TestLastUsedStay(t *testing.T) {
	for seed := range 100 {
		pick := newPicker(seed)
		size := 1 + pick(8)
		c := newCache(t, size)
		var used []key // the last used one first
		for n := range 200 {
			k := key{pick(12)}
			d, ok := c.Find(k[0], 0, 0)
			recent := slices.Contains(used[:min(size, len(used))], k)
			if ok != recent {
				t.Fatalf("Find(%v): got %v, %v; last used were %v", k, d, ok, used)
			}
			if !ok {
				checkInsert(t, c, k, some(n, 0), api.OK)
			}
			used = slices.Insert(slices.DeleteFunc(used, func(u key) bool { return u == k }), 0, k)
		}
	}
}
