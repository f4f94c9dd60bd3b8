package ratelimit_test

import (
	"math"
	"slices"
	"strconv"
	"testing"

	"accesscontrol/ratelimit"
)

const latest = 1 << 50

// P31.1: the numbers that a limiter can have.
func TestNew(t *testing.T) {
	for _, burst := range []int{1, 2, 999999, 1000000} {
		for _, interval := range []int{1, 2, 999999, 1000000} {
			for _, keys := range []int{1, 2, 1023, 1024} {
				l := newLimiter(t, burst, interval, keys)
				checkLimiter(t, l, 0, 0)
				checkLeft(t, l, "a", 0, burst)
			}
		}
	}
	for _, n := range []int{0, -1, 1000001, -1000000, 1 << 32, math.MaxInt, math.MinInt} {
		if ratelimit.New(n, 1, 1) != nil || ratelimit.New(1, n, 1) != nil || ratelimit.New(1, 1, n) != nil {
			t.Errorf("New with %d is a limiter", n)
		}
	}
	if ratelimit.New(1, 1, 1025) != nil || ratelimit.New(0, 0, 0) != nil {
		t.Error("New with numbers that are out of range is a limiter")
	}
}

// P31.2, P31.3: the first example.
func TestFirstExample(t *testing.T) {
	l := newLimiter(t, 2, 10, 1)
	checkAllow(t, l, event{"a", 0, true}, event{"a", 1, true}, event{"a", 2, false})
	for _, x := range [][2]int{{2, 0}, {9, 0}, {10, 1}, {19, 1}, {20, 2}, {29, 2}, {30, 2}, {100, 2}} {
		checkLeft(t, l, "a", x[0], x[1])
	}
	checkDropped(t, l, "a", 1)
	checkLimiter(t, l, 2, 1, "a")
}

// P31.2, P31.3: the second example.
func TestSecondExample(t *testing.T) {
	l := newLimiter(t, 2, 10, 1)
	checkAllow(t, l, event{"a", 0, true}, event{"a", 1, true}, event{"a", 2, false})
	checkAllow(t, l, event{"b", 5, false})
	checkLimiter(t, l, 2, 2, "a")
	checkLeft(t, l, "b", 5, 0)
	checkLeft(t, l, "b", 19, 0)
	checkLeft(t, l, "b", 20, 2)
	checkAllow(t, l, event{"b", 25, true})
	checkLimiter(t, l, 3, 2, "b")
	checkDropped(t, l, "a", 0)
	checkLeft(t, l, "a", 25, 0)
	checkLeft(t, l, "b", 25, 1)
}

// P31.2: the clock of a key goes on by intervals, and not by events.
func TestClock(t *testing.T) {
	l := newLimiter(t, 3, 10, 2)
	checkAllow(t, l, event{"a", 7, true}, event{"a", 12, true}, event{"a", 16, true}, event{"a", 16, false})
	checkAllow(t, l, event{"a", 17, true}, event{"a", 26, false}, event{"a", 27, true}, event{"a", 28, false})
	for _, x := range [][2]int{{28, 0}, {36, 0}, {37, 1}, {46, 1}, {47, 2}, {56, 2}, {57, 3}, {58, 3}, {1000, 3}} {
		checkLeft(t, l, "a", x[0], x[1])
	}
	checkAllow(t, l, event{"a", 49, true}, event{"a", 49, true}, event{"a", 49, false}, event{"a", 56, false}, event{"a", 57, true})
}

// P31.2: the clock of a key that may have burst events is the time, so the next event is added a whole interval after the first one of a burst.
func TestClockOfFullBucket(t *testing.T) {
	l := newLimiter(t, 2, 10, 2)
	checkAllow(t, l, event{"a", 0, true})
	checkAllow(t, l, event{"a", 25, true}, event{"a", 25, true}, event{"a", 34, false}, event{"a", 35, true}, event{"a", 44, false}, event{"a", 45, true})
	checkLeft(t, l, "a", 64, 1)
	checkLeft(t, l, "a", 65, 2)
	checkAllow(t, l, event{"a", 65, true}, event{"a", 74, true}, event{"a", 74, false}, event{"a", 75, true})
	one := newLimiter(t, 1, 10, 1)
	checkAllow(t, one, event{"a", 3, true}, event{"a", 12, false}, event{"a", 13, true}, event{"a", 22, false}, event{"a", 38, true}, event{"a", 43, false}, event{"a", 47, false}, event{"a", 48, true})
}

// P31.2: each key has its own events, and its clock is set when it becomes known.
func TestSeparateKeys(t *testing.T) {
	l := newLimiter(t, 1, 10, 3)
	checkAllow(t, l, event{"a", 0, true}, event{"b", 4, true}, event{"c", 8, true})
	checkAllow(t, l, event{"a", 9, false}, event{"b", 9, false}, event{"c", 9, false})
	checkAllow(t, l, event{"c", 13, false}, event{"b", 13, false}, event{"a", 13, true})
	checkAllow(t, l, event{"c", 17, false}, event{"b", 17, true}, event{"a", 17, false}, event{"c", 18, true})
	checkLimiter(t, l, 6, 7, "a", "b", "c")
}

// P31.2: keys are forgotten only if there is no room for a new one, and then all that may have burst events.
func TestForget(t *testing.T) {
	l := newLimiter(t, 2, 10, 3)
	checkAllow(t, l, event{"a", 0, true}, event{"b", 1, true})
	checkAllow(t, l, event{"c", 50, true})
	checkLimiter(t, l, 3, 0, "a", "b", "c")
	checkAllow(t, l, event{"a", 50, true}, event{"a", 51, true})
	checkLimiter(t, l, 5, 0, "a", "b", "c")
	checkAllow(t, l, event{"d", 59, true})
	checkLimiter(t, l, 6, 0, "a", "c", "d")
	checkAllow(t, l, event{"e", 59, false})
	checkLimiter(t, l, 6, 1, "a", "c", "d")
	checkAllow(t, l, event{"e", 75, true}) // c is full since 60, d since 69, and a since 70
	checkLimiter(t, l, 7, 1, "e")
	checkLeft(t, l, "a", 75, 2)
	checkLeft(t, l, "e", 75, 1)
}

// P31.2: a key that is not known is not permitted if no other one can be forgotten, and later it begins with burst events.
func TestNoRoom(t *testing.T) {
	l := newLimiter(t, 2, 10, 2)
	checkAllow(t, l, event{"a", 0, true}, event{"b", 0, true})
	for now := range 10 {
		checkLeft(t, l, "c", now, 0)
		checkAllow(t, l, event{"c", now, false})
	}
	checkDropped(t, l, "c", 0)
	checkLimiter(t, l, 2, 10, "a", "b")
	checkLeft(t, l, "c", 10, 2)
	checkAllow(t, l, event{"a", 10, true}, event{"c", 10, true}, event{"c", 10, true}, event{"c", 10, false})
	checkLimiter(t, l, 5, 11, "a", "c")
	checkDropped(t, l, "c", 1)
}

// P31.2: an event of a known key forgets nothing, also in a limiter without room.
func TestKnownKeyForgetsNothing(t *testing.T) {
	l := newLimiter(t, 1, 10, 2)
	checkAllow(t, l, event{"a", 0, true}, event{"b", 0, true}, event{"a", 5, false}, event{"a", 30, true}, event{"a", 31, false}, event{"b", 99, true})
	checkLimiter(t, l, 4, 2, "a", "b")
}

// P31.2: with 1024 known keys there is no room for another one.
func TestManyKeys(t *testing.T) {
	for _, keys := range []int{1, 2, 16, 1023, 1024} {
		l := newLimiter(t, 1, 10, keys)
		var want []string
		for n := range keys {
			want = append(want, strconv.Itoa(n))
			checkAllow(t, l, event{strconv.Itoa(n), 0, true})
		}
		slices.Sort(want)
		checkAllow(t, l, event{"other", 9, false})
		checkLimiter(t, l, keys, 1, want...)
		checkAllow(t, l, event{"0", 10, true}, event{"other", 10, keys > 1})
		if keys > 1 {
			checkLimiter(t, l, keys+2, 1, "0", "other")
		}
	}
}

// P31.2, P31.3: the time of a call is never before that of the limiter, which a call of Allow sets, also one that is not permitted.
func TestTimeOfCall(t *testing.T) {
	l := newLimiter(t, 1, 10, 1)
	checkAllow(t, l, event{"a", -50, true}) // at the time 0
	checkLeft(t, l, "a", 9, 0)
	checkLeft(t, l, "a", 10, 1)
	checkLeft(t, l, "a", -1, 0)
	checkAllow(t, l, event{"a", 3, false}, event{"b", 9, false}, event{"a", 5, false})
	checkLeft(t, l, "a", 0, 0) // at the time 9
	checkAllow(t, l, event{"a", 10, true}, event{"a", 0, false}, event{"a", math.MinInt, false})
	checkLeft(t, l, "a", 0, 0)
	checkAllow(t, l, event{"a", 19, false}, event{"a", 20, true})
	checkLimiter(t, l, 3, 6, "a")
}

// P31.3: Left changes nothing, also not the time, and forgets no keys.
func TestLeftChangesNothing(t *testing.T) {
	l := newLimiter(t, 2, 10, 1)
	checkAllow(t, l, event{"a", 0, true}, event{"a", 0, true})
	checkLeft(t, l, "a", latest, 2)
	checkLeft(t, l, "b", latest, 2)
	checkLeft(t, l, "c", 20, 2)
	checkLeft(t, l, "a", 0, 0)
	checkLeft(t, l, "b", 0, 0)
	checkLimiter(t, l, 2, 0, "a")
	checkAllow(t, l, event{"a", 9, false}, event{"a", 10, true})
}

// P31.2: a now after 2^50 counts as 2^50.
func TestLatestTime(t *testing.T) {
	for _, now := range []int{latest, latest + 1, latest + 10, latest + 1000000, math.MaxInt - 1, math.MaxInt} {
		l := newLimiter(t, 1, 10, 2)
		checkAllow(t, l, event{"a", latest - 9, true}, event{"b", latest - 10, true})
		checkAllow(t, l, event{"a", now, false})
		checkLeft(t, l, "a", now, 0)
		checkAllow(t, l, event{"a", math.MaxInt, false})
		checkLimiter(t, l, 2, 2, "a", "b")
		l = newLimiter(t, 1, 10, 2)
		checkAllow(t, l, event{"a", latest - 10, true}, event{"a", now, true}, event{"a", now, false})
		checkLeft(t, l, "a", math.MaxInt, 0)
	}
}

// P31.2: the greatest numbers of New, at the latest times.
func TestGreatestNumbers(t *testing.T) {
	l := newLimiter(t, 1000000, 1000000, 1)
	for range 1000000 {
		if !l.Allow("a", 0) {
			t.Fatal("an event of the burst is not permitted")
		}
	}
	checkAllow(t, l, event{"a", 0, false}, event{"a", 999999, false}, event{"a", 1000000, true}, event{"a", 1000000, false})
	checkLeft(t, l, "a", 1999999, 0)
	checkLeft(t, l, "a", 123456789, 122)
	checkLeft(t, l, "a", 1000000*1000000+999999, 999999)
	checkLeft(t, l, "a", 1000001*1000000, 1000000)
	checkLeft(t, l, "a", math.MaxInt, 1000000)
	one := newLimiter(t, 1000000, 1, 1)
	checkAllow(t, one, event{"a", 0, true}, event{"a", 0, true})
	checkLeft(t, one, "a", 1, 999999)
	checkLeft(t, one, "a", 2, 1000000)
	checkLeft(t, one, "a", math.MaxInt, 1000000)
}

// P31.3: Dropped counts from the last event that was permitted.
func TestDropped(t *testing.T) {
	l := newLimiter(t, 1, 10, 2)
	checkDropped(t, l, "a", 0)
	checkAllow(t, l, event{"a", 0, true})
	checkDropped(t, l, "a", 0)
	for n := range 9 {
		checkAllow(t, l, event{"a", n, false})
		checkDropped(t, l, "a", n+1)
		checkDropped(t, l, "b", 0)
	}
	checkAllow(t, l, event{"a", 10, true})
	checkDropped(t, l, "a", 0)
	checkAllow(t, l, event{"b", 10, true}, event{"b", 11, false}, event{"a", 12, false}, event{"b", 13, false}, event{"c", 14, false})
	checkDropped(t, l, "a", 1)
	checkDropped(t, l, "b", 2)
	checkDropped(t, l, "c", 0)
	checkLimiter(t, l, 3, 13, "a", "b")
}

// P31.3: Dropped of a key that was forgotten, and is known again, begins anew.
func TestDroppedOfForgottenKey(t *testing.T) {
	l := newLimiter(t, 1, 10, 1)
	checkAllow(t, l, event{"a", 0, true}, event{"a", 1, false}, event{"b", 30, true})
	checkDropped(t, l, "a", 0)
	checkAllow(t, l, event{"a", 60, true})
	checkDropped(t, l, "a", 0)
	checkAllow(t, l, event{"a", 61, false})
	checkDropped(t, l, "a", 1)
	checkLimiter(t, l, 3, 2, "a")
}

// P31.3: keys are any texts, in the order of their bytes.
func TestKeys(t *testing.T) {
	keys := []string{"b", "", "a", "B", "\xff", "é", "\x00", "aa", " ", "a\n", "日本"}
	l := newLimiter(t, 1, 1000, 1024)
	for i, key := range keys {
		checkAllow(t, l, event{key, i, true}, event{key, i, false})
	}
	checkLimiter(t, l, len(keys), len(keys), "", "\x00", " ", "B", "a", "a\n", "aa", "b", "é", "日本", "\xff")
	for _, key := range keys {
		checkDropped(t, l, key, 1)
		checkLeft(t, l, key, 500, 0)
	}
}

// P31.3: what Keys returns is new memory.
func TestKeysMemory(t *testing.T) {
	l := newLimiter(t, 1, 10, 3)
	checkAllow(t, l, event{"b", 0, true}, event{"a", 0, true})
	keys := l.Keys()
	keys[0], keys[1] = "x", "y"
	_ = append(keys[:1], "z")
	checkLimiter(t, l, 2, 0, "a", "b")
	if l.Keys(); keys[0] != "x" {
		t.Error("Keys writes into its earlier result")
	}
}

// P31.4: a copy and its original do not affect each other.
func TestCopy(t *testing.T) {
	l := newLimiter(t, 2, 10, 2)
	checkAllow(t, l, event{"a", 3, true}, event{"a", 5, true}, event{"a", 6, false})
	c := l.Copy()
	checkLimiter(t, c, 2, 1, "a")
	checkDropped(t, c, "a", 1)
	checkLeft(t, c, "a", 0, 0)
	checkLeft(t, c, "a", 13, 1)
	checkAllow(t, c, event{"a", 13, true}, event{"b", 14, true}, event{"c", 15, false})
	checkLimiter(t, l, 2, 1, "a")
	checkDropped(t, l, "a", 1)
	checkLeft(t, l, "a", 12, 0) // its time is still 6
	checkAllow(t, l, event{"c", 7, true}, event{"a", 8, false}, event{"a", 9, false})
	checkLimiter(t, c, 4, 2, "a", "b")
	checkDropped(t, c, "a", 0)
	checkLimiter(t, l, 3, 3, "a", "c")
	d := c.Copy().Copy()
	checkAllow(t, d, event{"c", 100, true})
	checkLimiter(t, d, 5, 2, "c")
	checkLimiter(t, c, 4, 2, "a", "b")
	checkAllow(t, c, event{"c", 16, false})
}

// P31.4: a copy of an empty limiter permits the same as it.
func TestCopyOfEmpty(t *testing.T) {
	l := newLimiter(t, 1, 10, 1)
	c := l.Copy()
	checkAllow(t, c, event{"a", 0, true}, event{"a", 9, false}, event{"b", 9, false})
	checkLimiter(t, l, 0, 0)
	checkLeft(t, l, "b", 0, 1)
}

// DOC.md, Objects: methods of no limiter.
func TestNone(t *testing.T) {
	made := newLimiter(t, 1, 10, 1)
	checkAllow(t, made, event{"a", 0, true}, event{"a", 0, false})
	assigned := *made
	for _, l := range []*ratelimit.Limiter{nil, {}, &assigned} {
		checkAllow(t, l, event{"a", 100, false}, event{"", 0, false})
		checkLeft(t, l, "a", 100, 0)
		checkLeft(t, l, "b", 100, 0)
		checkDropped(t, l, "a", 0)
		checkLimiter(t, l, 0, 0)
		if l.Copy() != nil {
			t.Error("Copy of no limiter is a limiter")
		}
	}
	checkLimiter(t, made, 1, 1, "a")
	checkLeft(t, made, "a", 9, 0)
}
