package auditlog_test

import (
	"math"
	"strconv"
	"testing"

	"accesscontrol/api"
	"accesscontrol/auditlog"
)

// P32.4: the numbers that a log can have.
func TestNew(t *testing.T) {
	for _, size := range []int{1, 2, 255, 256} {
		for _, n := range []int{1, 1000000} {
			checkLog(t, newLog(t, size, n, 1), 0, 0)
			checkLog(t, newLog(t, size, 1, n), 0, 0)
		}
	}
	for _, size := range []int{0, -1, 257, 1024, math.MaxInt, math.MinInt} {
		if auditlog.New(size, 1, 1) != nil {
			t.Errorf("New with the size %d is a log", size)
		}
	}
	for _, n := range []int{0, -1, 1000001, math.MaxInt, math.MinInt} {
		if auditlog.New(1, n, 1) != nil || auditlog.New(1, 1, n) != nil {
			t.Errorf("New with the burst or the interval %d is a log", n)
		}
	}
}

// P32.5: the second example.
func TestSecondExample(t *testing.T) {
	l := newLog(t, 2, 2, 10)
	r := record("x", 0, 1)
	checkAdd(t, l, r, true)
	checkAdd(t, l, r, false)
	checkAdd(t, l, r, false)
	checkLog(t, l, 1, 0, record("x", 0, 2))
	checkAdd(t, l, record("x", 9, 1), false)
	checkLog(t, l, 2, 0, record("x", 0, 2))
	checkAdd(t, l, record("x", 10, 1), false)
	checkLog(t, l, 2, 0, record("x", 0, 3))
}

// P32.5: the third example; a further record of another kind removes the first one.
func TestThirdExample(t *testing.T) {
	l := newLog(t, 2, 2, 10)
	checkAdd(t, l, record("x", 0, 5), true)
	checkAdd(t, l, record("y", 1, 1), true)
	checkAdd(t, l, record("x", 2, 1), false)
	checkAdd(t, l, record("z", 3, 1), true)
	checkLog(t, l, 0, 6, record("y", 1, 1), record("z", 3, 1))
	checkAdd(t, l, record("x", 10, 2), true)
	checkLog(t, l, 0, 7, record("z", 3, 1), record("x", 10, 2))
}

// P32.5: a log keeps as many records as its size, and removes one for each further one.
func TestSize(t *testing.T) {
	for _, size := range []int{1, 2, 3, 255, 256} {
		l := newLog(t, size, 1, 10)
		var all []api.Record
		for n := range size + 5 {
			r := record(strconv.Itoa(n), n, n+1)
			all = append(all, r)
			checkAdd(t, l, r, true)
		}
		checkLog(t, l, 0, 15, all[5:]...)
	}
}

// P32.5: a record that is equal in kind is counted where it stands; its Time and Seq are not kept.
func TestCounted(t *testing.T) {
	l := newLog(t, 4, 100, 10)
	checkAdd(t, l, record("x", 5, 1), true)
	checkAdd(t, l, record("y", 6, 1), true)
	again := record("x", 9, 7)
	again.Seq = 3
	checkAdd(t, l, again, false)
	checkAdd(t, l, record("x", 1, 2), false)
	checkLog(t, l, 0, 0, record("x", 5, 10), record("y", 6, 1))
}

// P32.5: each change of the kind makes another record; each change of Time, Seq and Count does not.
func TestKinds(t *testing.T) {
	l := newLog(t, 256, 100, 10)
	first := denial()
	checkAdd(t, l, first, true)
	want := []api.Record{first}
	for _, change := range []func(*api.Record){
		func(r *api.Record) { r.Granted = true },
		func(r *api.Record) { r.Permissive = true },
		func(r *api.Record) { r.Source = "x" },
		func(r *api.Record) { r.Target = "x" },
		func(r *api.Record) { r.Class = "dir" },
		func(r *api.Record) { r.Perms = []string{"write", "read"} },
		func(r *api.Record) { r.Perms = []string{"read"} },
	} {
		r := changed(change)
		checkAdd(t, l, r, true)
		want = append(want, r)
	}
	for _, change := range []func(*api.Record){
		func(r *api.Record) { r.Time = 50 },
		func(r *api.Record) { r.Seq = 50 },
		func(r *api.Record) { r.Count = 50 },
	} {
		checkAdd(t, l, changed(change), false)
	}
	want[0].Count += 2 + 2 + 50
	checkLog(t, l, 0, 0, want...)
}

// P32.5: the limiter is asked for the kind of a record, not for its Time, Seq and Count, and counts one event for each record.
func TestLimit(t *testing.T) {
	l := newLog(t, 4, 2, 10)
	r := record("x", 0, 100)
	checkAdd(t, l, r, true)
	r.Seq, r.Count, r.Time = 8, 10, 1
	checkAdd(t, l, r, false)
	r.Seq, r.Count, r.Time = 9, 7, 2
	checkAdd(t, l, r, false) // dropped
	checkAdd(t, l, record("y", 2, 1), true)
	checkLog(t, l, 7, 0, record("x", 0, 110), record("y", 2, 1))
	r.Time = 9
	checkAdd(t, l, r, false) // dropped
	r.Time = 10
	checkAdd(t, l, r, false)
	r.Time = 3 // which is before the time of the limiter
	checkAdd(t, l, r, false)
	checkLog(t, l, 21, 0, record("x", 0, 117), record("y", 2, 1))
}

// P32.5: a record that was removed from the log is still limited, so it can be dropped although the log does not have it.
func TestLimitOfRemoved(t *testing.T) {
	l := newLog(t, 1, 1, 10)
	checkAdd(t, l, record("x", 0, 1), true)
	checkAdd(t, l, record("y", 1, 1), true)
	checkAdd(t, l, record("x", 9, 1), false)
	checkLog(t, l, 1, 1, record("y", 1, 1))
	checkAdd(t, l, record("x", 10, 1), true)
	checkLog(t, l, 1, 2, record("x", 10, 1))
}

// P32.4, P32.5: the limiter knows 1024 kinds; further ones are dropped until one of them can be forgotten.
func TestManyKinds(t *testing.T) {
	l := newLog(t, 1, 1, 10)
	for n := range 1024 {
		checkAdd(t, l, record(strconv.Itoa(n), 0, 1), true)
	}
	checkAdd(t, l, record("other", 9, 5), false)
	checkLog(t, l, 5, 1023, record("1023", 0, 1))
	checkAdd(t, l, record("other", 10, 5), true)
	checkLog(t, l, 5, 1024, record("other", 10, 5))
}

// P32.5: a record that is not proper changes nothing; the limiter is not asked.
func TestAddNotProper(t *testing.T) {
	l := newLog(t, 1, 1, 10)
	checkAdd(t, l, record("x", 0, 0), false)
	checkAdd(t, l, record("x", latest+1, 1), false)
	checkAdd(t, l, record("", 5, 1), false)
	checkLog(t, l, 0, 0)
	checkAdd(t, l, record("x", 0, 1), true)
	checkAdd(t, l, record("x", 100, -1), false)
	checkAdd(t, l, record("x", 9, 3), false) // the time is not 100, so it is dropped
	checkLog(t, l, 3, 0, record("x", 0, 1))
}

// P32.5: Counts are added without a bound, also beyond that of a proper record.
func TestGreatCounts(t *testing.T) {
	l := newLog(t, 1, 2, 10)
	for range 3 {
		l.Add(record("x", 0, math.MaxInt32))
	}
	checkLog(t, l, math.MaxInt32, 0, record("x", 0, 2*math.MaxInt32))
	l.Add(record("y", 0, math.MaxInt32))
	checkLog(t, l, math.MaxInt32, 2*math.MaxInt32, record("y", 0, math.MaxInt32))
}

// P32.6: Clear removes the records, and neither the numbers nor what the limiter knows.
func TestClear(t *testing.T) {
	l := newLog(t, 2, 1, 10)
	l.Clear()
	checkLog(t, l, 0, 0)
	for i, target := range []string{"x", "y", "z"} {
		checkAdd(t, l, record(target, i, i+1), true)
	}
	checkAdd(t, l, record("z", 2, 4), false)
	l.Clear()
	checkLog(t, l, 4, 1)
	l.Clear()
	checkLog(t, l, 4, 1)
	checkAdd(t, l, record("z", 11, 1), false)
	checkLog(t, l, 5, 1)
	checkAdd(t, l, record("z", 12, 1), true)
	checkAdd(t, l, record("y", 12, 1), true)
	checkLog(t, l, 5, 1, record("z", 12, 1), record("y", 12, 1))
	checkAdd(t, l, record("x", 12, 1), true)
	checkLog(t, l, 5, 2, record("y", 12, 1), record("x", 12, 1))
}

// P32.6: a copy and its original do not affect each other.
func TestCopy(t *testing.T) {
	l := newLog(t, 2, 2, 10)
	for i, target := range []string{"x", "y", "z", "z", "z"} {
		checkAdd(t, l, record(target, i, 1), i < 3)
	}
	c := l.Copy()
	checkLog(t, c, 1, 1, record("y", 1, 1), record("z", 2, 2))
	checkAdd(t, c, record("y", 4, 1), false)
	checkAdd(t, c, record("z", 12, 1), false)
	checkAdd(t, c, record("w", 12, 1), true)
	checkLog(t, c, 1, 3, record("z", 2, 3), record("w", 12, 1))
	checkLog(t, l, 1, 1, record("y", 1, 1), record("z", 2, 2))
	checkAdd(t, l, record("y", 5, 1), false) // the second event for the limiter of l, too
	checkAdd(t, l, record("z", 5, 1), false) // dropped, because the limiter of l did not get to the time 12
	checkLog(t, l, 2, 1, record("y", 1, 2), record("z", 2, 2))
	checkAdd(t, l, record("v", 5, 1), true)
	l.Clear()
	checkAdd(t, l, record("u", 5, 1), true)
	checkLog(t, l, 2, 3, record("u", 5, 1))
	checkLog(t, c, 1, 3, record("z", 2, 3), record("w", 12, 1))
	d := c.Copy()
	c.Clear()
	checkLog(t, d, 1, 3, record("z", 2, 3), record("w", 12, 1))
	checkAdd(t, newLog(t, 1, 1, 1).Copy(), record("x", 0, 1), true)
}

// DOC.md, Memory: a log shares no memory with what it is given, with its results and with copies.
func TestMemory(t *testing.T) {
	l := newLog(t, 2, 2, 10)
	given := denial()
	checkAdd(t, l, given, true)
	given.Perms[0] = "other"
	checkLog(t, l, 0, 0, denial())
	c := l.Copy()
	got := l.Records()
	got[0].Perms[1], got[0].Count = "other", 99
	_ = append(got[:0], record("x", 0, 1))
	checkLog(t, l, 0, 0, denial())
	checkLog(t, c, 0, 0, denial())
	checkAdd(t, l, record("y", 5, 1), true)
	checkAdd(t, l, record("z", 5, 1), true)
	checkLog(t, c, 0, 0, denial())
	if got[0].Target != "x" {
		t.Error("Add writes into what Records returned")
	}
	if r := denial(); auditlog.Check(r) != api.OK || !auditlog.Same(r, denial()) {
		t.Error("Check changes a record")
	}
}

// DOC.md, Objects: methods of no log.
func TestNone(t *testing.T) {
	made := newLog(t, 2, 1, 10)
	checkAdd(t, made, record("x", 0, 1), true)
	checkAdd(t, made, record("x", 0, 1), false)
	assigned := *made
	for _, l := range []*auditlog.Log{nil, {}, &assigned} {
		checkAdd(t, l, record("y", 0, 1), false)
		l.Clear()
		checkLog(t, l, 0, 0)
		if l.Copy() != nil {
			t.Error("Copy of no log is a log")
		}
	}
	checkLog(t, made, 1, 0, record("x", 0, 1))
	checkAdd(t, made, record("y", 0, 1), true)
}
