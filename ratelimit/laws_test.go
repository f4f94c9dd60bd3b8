package ratelimit_test

import (
	"maps"
	"slices"
	"testing"

	"accesscontrol/ratelimit"
)

// model is a limiter by the definition, in which the time passes in steps of one.
type model struct {
	burst, interval, keys int
	time                  int
	known                 map[string]*state

	allowed, dropped, forgotten, refused int
}

// state is the state of a known key at the time of its model.
type state struct{ left, clock, dropped int }

func newModel(burst, interval, keys int) *model {
	return &model{burst: burst, interval: interval, keys: keys, known: map[string]*state{}}
}

// pass lets the time pass up to a time.
func (m *model) pass(time int) {
	for m.time < time {
		m.time++
		for _, s := range m.known {
			if s.left == m.burst {
				s.clock = m.time
			} else if m.time-s.clock == m.interval {
				s.left++
				s.clock += m.interval
			}
		}
	}
}

func (m *model) allow(key string, now int) bool {
	m.pass(now)
	if m.known[key] == nil && len(m.known) == m.keys {
		for _, other := range slices.Collect(maps.Keys(m.known)) {
			if m.known[other].left == m.burst {
				delete(m.known, other)
				m.forgotten++
			}
		}
	}
	if m.known[key] == nil && len(m.known) == m.keys {
		m.dropped++
		m.refused++
		return false
	}
	if m.known[key] == nil {
		m.known[key] = &state{left: m.burst, clock: m.time}
	}
	s := m.known[key]
	if s.left == 0 {
		s.dropped++
		m.dropped++
		return false
	}
	s.left--
	s.dropped = 0
	m.allowed++
	return true
}

// left is what a copy says after the time has passed.
func (m *model) left(key string, now int) int {
	c := m.copy()
	c.pass(now)
	if s := c.known[key]; s != nil {
		return s.left
	}
	if c.allow(key, now) {
		return m.burst
	}
	return 0
}

func (m *model) names() []string { return slices.Sorted(maps.Keys(m.known)) }

func (m *model) copy() *model {
	c := *m
	c.known = map[string]*state{}
	for key, s := range m.known {
		twin := *s
		c.known[key] = &twin
	}
	return &c
}

// pair is a limiter, and the model that it should agree with.
type pair struct {
	l *ratelimit.Limiter
	m *model
}

func newPair(t *testing.T, pick picker) pair {
	t.Helper()
	burst, interval, keys := 1+pick(4), 1+pick(9), 1+pick(4)
	return pair{newLimiter(t, burst, interval, keys), newModel(burst, interval, keys)}
}

func (p pair) copy() pair { return pair{p.l.Copy(), p.m.copy()} }

func (p pair) check(t *testing.T, pick picker) {
	t.Helper()
	checkLimiter(t, p.l, p.m.allowed, p.m.dropped, p.m.names()...)
	for _, key := range []string{"a", "b", "c", "d", "e"} {
		dropped := 0
		if s := p.m.known[key]; s != nil {
			dropped = s.dropped
		}
		checkDropped(t, p.l, key, dropped)
		now := p.m.time + pick(20) - 3
		checkLeft(t, p.l, key, now, p.m.left(key, now))
	}
}

// P31.2 to P31.4: after each of many events a limiter says what the model says, and so does a copy.
func TestModel(t *testing.T) {
	var total model
	for seed := range 150 {
		pick := newPicker(seed)
		p := newPair(t, pick)
		other := p.copy()
		for range 150 {
			key, now := string(rune('a'+pick(5))), p.m.time+pick(8)-3
			checkAllow(t, p.l, event{key, now, p.m.allow(key, now)})
			p.check(t, pick)
			switch pick(20) {
			case 0:
				p, other = p.copy(), p
			case 1, 2:
				p, other = other, p
			}
			other.check(t, pick)
		}
		total.allowed += p.m.allowed
		total.dropped += p.m.dropped
		total.forgotten += p.m.forgotten
		total.refused += p.m.refused
	}
	if min(total.allowed, total.dropped-total.refused, total.forgotten, total.refused) < 500 {
		t.Errorf("got only %d permitted, %d dropped, %d refused and %d forgotten", total.allowed, total.dropped, total.refused, total.forgotten)
	}
}

// P31.5: the bound on the events of a key within any time.
func TestBound(t *testing.T) {
	tight := 0
	for seed := range 200 {
		pick := newPicker(seed)
		burst, interval := 1+pick(5), 1+pick(12)
		l := newLimiter(t, burst, interval, 1024)
		var times []int
		for now := 0; now < 200; now += pick(3) {
			if l.Allow("a", now) {
				times = append(times, now)
			}
			l.Allow("b", now)
		}
		for i, from := range times {
			for j, to := range times[i:] {
				bound := burst + (to-from)/interval + 1
				if j+1 > bound {
					t.Errorf("burst %d, interval %d: %d events from %d to %d, more than %d", burst, interval, j+1, from, to, bound)
				}
				if j+1 >= bound-1 {
					tight++
				}
			}
		}
	}
	if tight < 1000 {
		t.Errorf("got only %d times with almost as many events as the bound", tight)
	}
}

// P31.6: time that goes back has no effect, and an event is permitted exactly if Left is positive.
func TestTimeGoesBack(t *testing.T) {
	back, counts := 0, [2]int{}
	for seed := range 200 {
		pick := newPicker(seed)
		burst, interval, keys := 1+pick(3), 1+pick(9), 1+pick(3)
		l, steady := newLimiter(t, burst, interval, keys), newLimiter(t, burst, interval, keys)
		latest := 0
		for range 200 {
			key, now := string(rune('a'+pick(4))), latest+pick(12)-8
			if now < latest {
				back++
			}
			latest = max(latest, now)
			left := l.Left(key, now)
			checkLeft(t, steady, key, latest, left)
			ok := l.Allow(key, now)
			checkAllow(t, steady, event{key, latest, ok})
			if ok != (left > 0) {
				t.Errorf("Allow(%q, %d): got %v, although Left was %d", key, now, ok, left)
			}
			if ok {
				counts[0]++
			} else {
				counts[1]++
			}
		}
		a, d := steady.Total()
		checkLimiter(t, l, a, d, steady.Keys()...)
	}
	if min(back, counts[0], counts[1]) < 5000 {
		t.Errorf("got only %d times that go back, %v events", back, counts)
	}
}
