package auditlog_test

import (
	"math"
	"strconv"
	"strings"
	"testing"

	"accesscontrol/api"
	"accesscontrol/auditlog"
)

// P32.3: the first example, and the other forms of a text.
func TestText(t *testing.T) {
	r := denial()
	checkText(t, r, "denied { read write } for root:system:user_t:s0 to root:object_r:file_t:s0 : file time 5 seq 1 count 2")
	r.Granted, r.Perms = true, []string{"send"}
	checkText(t, r, "granted { send } for root:system:user_t:s0 to root:object_r:file_t:s0 : file time 5 seq 1 count 2")
	r.Permissive, r.Class = true, "process"
	checkText(t, r, "granted { send } for root:system:user_t:s0 to root:object_r:file_t:s0 : process time 5 seq 1 count 2 permissive")
	r.Granted, r.Time, r.Seq, r.Count = false, 0, 0, 1
	checkText(t, r, "denied { send } for root:system:user_t:s0 to root:object_r:file_t:s0 : process time 0 seq 0 count 1 permissive")
	r = api.Record{Time: latest, Seq: latest, Source: "a", Target: "b", Class: "c", Perms: []string{"d", "e", "f"}, Count: math.MaxInt32}
	checkText(t, r, "denied { d e f } for a to b : c time 1125899906842624 seq 1125899906842624 count 2147483647")
}

// P32.3: words of the text may be contexts and names, too.
func TestTextOfItsWords(t *testing.T) {
	r := api.Record{Time: 10, Seq: 20, Source: "}", Target: "to", Class: "time", Perms: []string{"for", "denied", "seq", "count"}, Count: 30}
	checkText(t, r, "denied { for denied seq count } for } to to : time time 10 seq 20 count 30")
	r = api.Record{Source: "{", Target: ":", Class: "permissive_", Perms: []string{"granted"}, Count: 1, Permissive: true, Granted: true}
	checkText(t, r, "granted { granted } for { to : : permissive_ time 0 seq 0 count 1 permissive")
}

// P32.3: the longest texts.
func TestLongText(t *testing.T) {
	long := strings.Repeat("x", 8192)
	r := api.Record{Time: latest, Source: long, Target: "y" + long[1:], Class: long[:32], Perms: names(32), Count: 1}
	checkText(t, r, "denied { "+strings.Join(r.Perms, " ")+" } for "+r.Source+" to "+r.Target+" : "+r.Class+" time 1125899906842624 seq 0 count 1")
	checkNoText(t, "denied { read } for "+long+"x to b : file time 0 seq 0 count 1")
	checkNoText(t, "denied { read } for a to "+long+"x : file time 0 seq 0 count 1")
	checkNoText(t, "denied { read } for a to b : "+long[:33]+" time 0 seq 0 count 1")
	checkNoText(t, "denied { q "+strings.Join(names(32), " ")+" } for a to b : file time 0 seq 0 count 1")
	checkNoText(t, "denied { "+strings.Repeat("a ", 1<<20)+"} for a to b : file time 0 seq 0 count 1")
	checkNoText(t, strings.Repeat(" ", 1<<20))
}

// P32.3: texts that are those of no proper record.
func TestParseErrors(t *testing.T) {
	const good = "denied { read write } for a to b : file time 5 seq 1 count 2"
	if _, err := auditlog.Parse(good); err != api.OK {
		t.Fatalf("Parse(%q): got %v", good, err)
	}
	for _, s := range []string{"", " ", "denied", "denied {", "}", good + "\n", good + " ", " " + good, good + " permissiv", good + " permissive ", good + " permissive permissive", good + " x", good + "\x00", "x" + good, good + " " + good} {
		checkNoText(t, s)
	}
	for _, x := range [][2]string{
		{"denied", "refused"}, {"denied", "Denied"}, {"denied", ""}, {"denied ", ""}, {"denied", "permissive"},
		{"{ ", ""}, {"{", "("}, {"{ ", "{"}, {" }", "}"}, {"} ", "}"}, {" }", ""}, {"}", ")"}, {"} ", "} } "}, {"{", "{ {"},
		{"read write", ""}, {" read write", ""}, {"read write", "read read"}, {"read write", "read  write"}, {"read write", "read, write"}, {"read write", "read\twrite"}, {"read", "self"}, {"read", "9"},
		{"for a", "for"}, {"for a", "for "}, {"for", "from"}, {"a to", "a a to"}, {"a to", "\x7f to"}, {"a to", "é to"}, {" to ", " "}, {" to ", " : "}, {"to b", "to"}, {"to b", "to b b"}, {"to b", "to \x1f"},
		{" : ", ": "}, {" : ", " :"}, {" : ", " "}, {" : ", " ; "}, {"file", "self"}, {"file", "9"}, {"file ", ""}, {"file", ""}, {"file", "file file"},
		{"time", "Time"}, {"time ", ""}, {"time 5", "time"}, {"time 5 seq 1", "seq 1 time 5"}, {"seq", "time"}, {"count", "seq"}, {" count 2", ""}, {"count 2", "count"}, {"count 2", "count "},
	} {
		if !strings.Contains(good, x[0]) {
			t.Fatalf("%q does not contain %q", good, x[0])
		}
		checkNoText(t, strings.Replace(good, x[0], x[1], 1))
	}
}

// P32.3: DOC.md's form of numbers, and their limits.
func TestParseNumbers(t *testing.T) {
	text := func(time, seq, count string) string {
		return "denied { read } for a to b : file time " + time + " seq " + seq + " count " + count
	}
	for _, n := range []string{"", "-1", "-0", "+1", "00", "01", "1.0", "1e3", "0x1", "1_0", "a", "1 1", " 1", "1 ", "١", strconv.Itoa(latest + 1), "99999999999999999999", "18446744073709551617", "-18446744073709551615"} {
		checkNoText(t, text(n, "1", "1"))
		checkNoText(t, text("1", n, "1"))
		checkNoText(t, text("1", "1", n))
	}
	checkNoText(t, text("1", "1", "0"))
	checkNoText(t, text("1", "1", "2147483648"))
	for _, n := range []int{1, 9, 10, 100, 2147483647} {
		r := api.Record{Time: n, Seq: n - 1, Source: "a", Target: "b", Class: "file", Perms: []string{"read"}, Count: n}
		checkText(t, r, text(strconv.Itoa(n), strconv.Itoa(n-1), strconv.Itoa(n)))
	}
}
