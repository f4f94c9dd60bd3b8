package auditlog_test

import (
	"reflect"
	"strings"
	"testing"

	"accesscontrol/api"
	"accesscontrol/auditlog"
)

// denial returns a record of which every field can be told from those of others.
func denial() api.Record {
	return api.Record{Time: 5, Seq: 1, Source: "root:system:user_t:s0", Target: "root:object_r:file_t:s0", Class: "file", Perms: []string{"read", "write"}, Count: 2}
}

// record returns a short record about a target.
func record(target string, time, count int) api.Record {
	return api.Record{Time: time, Seq: 7, Source: "a", Target: target, Class: "file", Perms: []string{"read"}, Count: count}
}

// changed returns a denial with a change.
func changed(change func(*api.Record)) api.Record {
	r := denial()
	change(&r)
	return r
}

// names returns as many different identifiers.
func names(n int) []string {
	var l []string
	for i := range n {
		l = append(l, "p"+strings.Repeat("_", i))
	}
	return l
}

func newLog(t *testing.T, size, burst, interval int) *auditlog.Log {
	t.Helper()
	l := auditlog.New(size, burst, interval)
	if l == nil {
		t.Fatalf("New(%d, %d, %d) is nil", size, burst, interval)
	}
	return l
}

func checkAdd(t *testing.T, l *auditlog.Log, r api.Record, want bool) {
	t.Helper()
	if got := l.Add(r); got != want {
		t.Errorf("Add(%v): got %v, want %v", r, got, want)
	}
}

// checkLog checks all that a log says of itself.
func checkLog(t *testing.T, l *auditlog.Log, dropped, removed int, want ...api.Record) {
	t.Helper()
	if d, r := l.Lost(); d != dropped || r != removed {
		t.Errorf("Lost: got %d, %d, want %d, %d", d, r, dropped, removed)
	}
	got := l.Records()
	if len(got) == 0 && len(want) == 0 {
		return
	}
	if !reflect.DeepEqual(got, want) {
		t.Errorf("Records:\n got %v\nwant %v", got, want)
	}
}

// checkError checks that Check and Text have an error, and that a log does not add the record.
func checkError(t *testing.T, r api.Record, want api.Errno) {
	t.Helper()
	if got := auditlog.Check(r); got != want {
		t.Errorf("Check(%.300v): got %v, want %v", r, got, want)
	}
	text, err := auditlog.Text(r)
	if err != want || (text == "") != (want != api.OK) {
		t.Errorf("Text(%.300v): got %q, %v, want %v", r, text, err, want)
	}
	l := newLog(t, 2, 2, 10)
	checkAdd(t, l, r, want == api.OK)
	if want != api.OK {
		checkLog(t, l, 0, 0)
	}
}

// checkText checks the text of a record, and that it is parsed as the record.
func checkText(t *testing.T, r api.Record, want string) {
	t.Helper()
	if got, err := auditlog.Text(r); got != want || err != api.OK {
		t.Errorf("Text(%v): got %q, %v, want %q", r, got, err, want)
	}
	if got, err := auditlog.Parse(want); err != api.OK || !reflect.DeepEqual(got, r) {
		t.Errorf("Parse(%q): got %v, %v, want %v", want, got, err, r)
	}
}

// checkNoText checks that a text is that of no record.
func checkNoText(t *testing.T, s string) {
	t.Helper()
	if got, err := auditlog.Parse(s); err != api.ErrSyntax || !reflect.DeepEqual(got, api.Record{}) {
		t.Errorf("Parse(%.300q): got %v, %v, want ErrSyntax", s, got, err)
	}
}

// picker picks numbers below its argument, by a rule that the seed begins.
type picker func(int) int

func newPicker(seed int) picker {
	state := uint32(seed)
	return func(n int) int {
		state = state*1664525 + 1013904223
		return int(state>>16) % n
	}
}

// one picks an element of a list.
func one[T any](pick picker, l ...T) T { return l[pick(len(l))] }
