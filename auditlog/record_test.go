package auditlog_test

import (
	"math"
	"slices"
	"strings"
	"testing"

	"accesscontrol/api"
	"accesscontrol/auditlog"
)

const latest = 1 << 50

// P32.1: the numbers that a record can have.
func TestCheckNumbers(t *testing.T) {
	for _, n := range []int{0, 1, 1 << 31, latest - 1, latest} {
		checkError(t, changed(func(r *api.Record) { r.Time = n }), api.OK)
		checkError(t, changed(func(r *api.Record) { r.Seq = n }), api.OK)
	}
	for _, n := range []int{-1, math.MinInt, latest + 1, math.MaxInt} {
		checkError(t, changed(func(r *api.Record) { r.Time = n }), api.ErrRange)
		checkError(t, changed(func(r *api.Record) { r.Seq = n }), api.ErrRange)
		checkError(t, changed(func(r *api.Record) { r.Count = n }), api.ErrRange)
	}
	for _, n := range []int{1, 2, math.MaxInt32 - 1, math.MaxInt32} {
		checkError(t, changed(func(r *api.Record) { r.Count = n }), api.OK)
	}
	for _, n := range []int{0, math.MaxInt32 + 1, latest} {
		checkError(t, changed(func(r *api.Record) { r.Count = n }), api.ErrRange)
	}
}

// P32.1: the texts that can stand for contexts.
func TestCheckContexts(t *testing.T) {
	good := []string{"a", "!", "~", ":", "}", "to", "self", "0", "a:b:c:s0-s1:c0.c5,c7", strings.Repeat("x", 8191), strings.Repeat("~", 8192)}
	bad := []string{"", " ", "a b", " a", "a ", "\x7f", "a\n", "\x00", "é", "a\xff", "\x80", strings.Repeat("x", 8193), strings.Repeat("x", 8191) + " "}
	for _, s := range good {
		checkError(t, changed(func(r *api.Record) { r.Source = s }), api.OK)
		checkError(t, changed(func(r *api.Record) { r.Target = s }), api.OK)
	}
	for _, s := range bad {
		checkError(t, changed(func(r *api.Record) { r.Source = s }), api.ErrArg)
		checkError(t, changed(func(r *api.Record) { r.Target = s }), api.ErrArg)
	}
	for c := range 256 {
		want := api.ErrArg
		if 33 <= c && c <= 126 {
			want = api.OK
		}
		checkError(t, changed(func(r *api.Record) { r.Source = "a" + string([]byte{byte(c)}) }), want)
		checkError(t, changed(func(r *api.Record) { r.Target = string([]byte{byte(c)}) + "a" }), want)
	}
}

// P32.1: the names of classes and permissions.
func TestCheckNames(t *testing.T) {
	for _, s := range []string{"a", "_", "file", "A9_", "denied", "granted", "for", "to", "time", strings.Repeat("n", 32)} {
		checkError(t, changed(func(r *api.Record) { r.Class = s }), api.OK)
		checkError(t, changed(func(r *api.Record) { r.Perms = []string{"read", s} }), api.OK)
	}
	for _, s := range []string{"", "self", "class", "9a", "a b", "a-b", "é", " a", "}", "{", strings.Repeat("n", 33)} {
		checkError(t, changed(func(r *api.Record) { r.Class = s }), api.ErrName)
		checkError(t, changed(func(r *api.Record) { r.Perms = []string{"read", s} }), api.ErrName)
		checkError(t, changed(func(r *api.Record) { r.Perms = []string{s, "read"} }), api.ErrName)
	}
}

// P32.1: how many permissions there are, and which one has the first error.
func TestCheckPerms(t *testing.T) {
	perms := func(l ...string) api.Record {
		return changed(func(r *api.Record) { r.Perms = l })
	}
	checkError(t, perms(), api.ErrArg)
	checkError(t, perms([]string{}...), api.ErrArg)
	checkError(t, perms(names(1)...), api.OK)
	checkError(t, perms(names(31)...), api.OK)
	checkError(t, perms(names(32)...), api.OK)
	checkError(t, perms(slices.Concat(names(32), []string{"q"})...), api.ErrLong)
	checkError(t, perms(slices.Repeat([]string{"self"}, 33)...), api.ErrLong)
	checkError(t, perms("a", "a"), api.ErrTwice)
	checkError(t, perms("a", "b", "c", "a"), api.ErrTwice)
	checkError(t, perms("a", "A", "b", "B"), api.OK)
	checkError(t, perms("a", "a", "self"), api.ErrTwice)
	checkError(t, perms("a", "self", "a"), api.ErrName)
	checkError(t, perms("self", "self"), api.ErrName)
}

// P32.1: of several errors, the first one that the promise names. Each row breaks what the next ones break, too.
func TestCheckOrder(t *testing.T) {
	breaks := []struct {
		change func(*api.Record)
		want   api.Errno
	}{
		{func(r *api.Record) { r.Time, r.Seq, r.Count = -1, -1, 0 }, api.ErrRange},
		{func(r *api.Record) { r.Source = "" }, api.ErrArg},
		{func(r *api.Record) { r.Class = "self" }, api.ErrName},
		{func(r *api.Record) { r.Perms = slices.Repeat([]string{"self"}, 33) }, api.ErrLong},
		{func(r *api.Record) { r.Perms = []string{"a", "a"} }, api.ErrTwice},
	}
	for i := range breaks {
		r := denial()
		for _, b := range slices.Backward(breaks[i:]) {
			b.change(&r)
		}
		checkError(t, r, breaks[i].want)
	}
	for _, change := range []func(*api.Record){func(r *api.Record) { r.Time = -1 }, func(r *api.Record) { r.Seq = -1 }, func(r *api.Record) { r.Count = 0 }} {
		r := api.Record{Count: 1}
		change(&r)
		checkError(t, r, api.ErrRange)
	}
	checkError(t, api.Record{}, api.ErrRange)
	checkError(t, api.Record{Count: 1}, api.ErrArg)
	checkError(t, api.Record{Count: 1, Source: "a", Class: "self"}, api.ErrArg)
	checkError(t, api.Record{Count: 1, Source: "a", Target: "b"}, api.ErrName)
	checkError(t, api.Record{Count: 1, Source: "a", Target: "b", Class: "c"}, api.ErrArg)
}

// P32.2: Same regards all fields but Time, Seq and Count.
func TestSame(t *testing.T) {
	for i, change := range []func(*api.Record){
		func(r *api.Record) {},
		func(r *api.Record) { r.Time++ },
		func(r *api.Record) { r.Seq = -7 },
		func(r *api.Record) { r.Count = math.MaxInt },
		func(r *api.Record) { r.Time, r.Seq, r.Count = 0, 0, 0 },
		func(r *api.Record) { r.Granted = true },
		func(r *api.Record) { r.Permissive = true },
		func(r *api.Record) { r.Source += "x" },
		func(r *api.Record) { r.Target = "" },
		func(r *api.Record) { r.Source, r.Target = r.Target, r.Source },
		func(r *api.Record) { r.Class = "dir" },
		func(r *api.Record) { r.Perms = []string{"write", "read"} },
		func(r *api.Record) { r.Perms = []string{"read"} },
		func(r *api.Record) { r.Perms = []string{"read", "write", "write"} },
		func(r *api.Record) { r.Perms = []string{"read", "create"} },
		func(r *api.Record) { r.Perms = nil },
	} {
		a, b := denial(), changed(change)
		if want := i < 5; auditlog.Same(a, b) != want || auditlog.Same(b, a) != want || !auditlog.Same(b, b) {
			t.Errorf("Same of %v and %v is not %v", a, b, want)
		}
	}
}

// P32.2: Same accepts any records; no permissions are the same as an empty list.
func TestSameOfAny(t *testing.T) {
	if !auditlog.Same(api.Record{}, api.Record{Time: math.MinInt, Seq: -1, Count: -1, Perms: []string{}}) {
		t.Error("Same of empty records is false")
	}
	a := api.Record{Source: " \n", Class: "\xff", Perms: []string{"", ""}}
	if !auditlog.Same(a, a) || auditlog.Same(a, api.Record{}) {
		t.Error("Same of records that are not proper")
	}
}
