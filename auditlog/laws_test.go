package auditlog_test

import (
	"reflect"
	"regexp"
	"slices"
	"strconv"
	"strings"
	"testing"

	"accesscontrol/api"
	"accesscontrol/auditlog"
	"accesscontrol/ratelimit"
	"accesscontrol/token"
)

// model is a log by the definition. Its limiter is asked for the kinds of records by numbers.
type model struct {
	size             int
	records, kinds   []api.Record
	dropped, removed int
	limiter          *ratelimit.Limiter

	added, joined, sum int
}

func newModel(size, burst, interval int) *model {
	return &model{size: size, limiter: ratelimit.New(burst, interval, 1024)}
}

// kind returns a record with the fields that two records have equal if they are equal in kind.
func kind(r api.Record) api.Record {
	r.Time, r.Seq, r.Count = 0, 0, 0
	return r
}

func place(l []api.Record, r api.Record) int {
	return slices.IndexFunc(l, func(old api.Record) bool { return reflect.DeepEqual(kind(old), kind(r)) })
}

// number returns the number of the kind of a record.
func (m *model) number(r api.Record) string {
	if place(m.kinds, r) < 0 {
		m.kinds = append(m.kinds, r)
	}
	return strconv.Itoa(place(m.kinds, r))
}

func (m *model) add(r api.Record) bool {
	if auditlog.Check(r) != api.OK {
		return false
	}
	m.sum += r.Count
	if !m.limiter.Allow(m.number(r), r.Time) {
		m.dropped += r.Count
		return false
	}
	if at := place(m.records, r); at >= 0 {
		m.records[at].Count += r.Count
		m.joined++
		return false
	}
	m.records = append(m.records, r)
	if len(m.records) > m.size {
		m.removed += m.records[0].Count
		m.records = m.records[1:]
	}
	m.added++
	return true
}

func (m *model) copy() *model {
	c := *m
	c.records, c.kinds, c.limiter = slices.Clone(m.records), slices.Clone(m.kinds), m.limiter.Copy()
	return &c
}

// pair is a log, and the model that it should agree with.
type pair struct {
	l *auditlog.Log
	m *model
}

func newPair(t *testing.T, pick picker) pair {
	t.Helper()
	size, burst, interval := 1+pick(6), 1+pick(3), 1+pick(8)
	return pair{newLog(t, size, burst, interval), newModel(size, burst, interval)}
}

func (p pair) copy() pair { return pair{p.l.Copy(), p.m.copy()} }

// check checks a log, and what follows for it: nothing is lost without being counted, and no two records are equal in kind.
func (p pair) check(t *testing.T) {
	t.Helper()
	checkLog(t, p.l, p.m.dropped, p.m.removed, p.m.records...)
	dropped, removed := p.l.Lost()
	sum := dropped + removed
	records := p.l.Records()
	for i, r := range records {
		sum += r.Count
		if place(records[:i], r) >= 0 {
			t.Errorf("two records are equal in kind: %v", records)
		}
	}
	if sum != p.m.sum || len(records) > p.m.size {
		t.Errorf("%d are kept or lost, and %d were added; %d records, and the size is %d", sum, p.m.sum, len(records), p.m.size)
	}
}

// pickRecord picks a record of one of not many kinds, seldom one that is not proper.
func pickRecord(pick picker, time int) api.Record {
	r := api.Record{
		Time: time, Seq: pick(3), Count: 1 + pick(4), Granted: pick(6) == 0, Permissive: pick(6) == 0,
		Source: "a", Target: one(pick, "x", "y", "z"), Class: "file",
		Perms: one(pick, []string{"read"}, []string{"read"}, []string{"write", "read"}),
	}
	switch pick(40) {
	case 0:
		r.Count = 0
	case 1:
		r.Source = "a b"
	case 2:
		r.Perms = []string{"read", "read"}
	}
	return r
}

// P32.5 to P32.7: after each of many calls a log says what the model says, and so does a copy.
func TestModel(t *testing.T) {
	var total model
	for seed := range 150 {
		pick := newPicker(seed)
		p := newPair(t, pick)
		other := p.copy()
		now := 10
		for range 200 {
			now += pick(4) - 1
			r := pickRecord(pick, now)
			checkAdd(t, p.l, r, p.m.add(r))
			p.check(t)
			switch pick(20) {
			case 0:
				p, other = p.copy(), p
			case 1, 2:
				p, other = other, p
			}
			other.check(t)
		}
		total.added += p.m.added
		total.joined += p.m.joined
		total.dropped += p.m.dropped
		total.removed += p.m.removed
	}
	if min(total.added, total.joined, total.dropped, total.removed) < 1000 {
		t.Errorf("got only %d added, %d joined, %d dropped and %d removed", total.added, total.joined, total.dropped, total.removed)
	}
}

// form is the form of texts, apart from the limits of words and numbers.
const form = `^(denied|granted) \{ ((?:[^ ]+ )+)\} for ([!-~]+) to ([!-~]+) : ([^ ]+) time (0|[1-9][0-9]*) seq (0|[1-9][0-9]*) count ([1-9][0-9]*)( permissive)?$`

// parsed returns the record that a text denotes, by the form of texts; false if there is none.
func parsed(shape *regexp.Regexp, s string) (api.Record, bool) {
	m := shape.FindStringSubmatch(s)
	if m == nil || len(m[3]) > 8192 || len(m[4]) > 8192 || !token.Identifier(m[5]) {
		return api.Record{}, false
	}
	r := api.Record{Granted: m[1] == "granted", Perms: strings.Fields(m[2]), Source: m[3], Target: m[4], Class: m[5], Permissive: m[9] != ""}
	for i, name := range r.Perms {
		if i == 32 || !token.Identifier(name) || slices.Contains(r.Perms[:i], name) {
			return api.Record{}, false
		}
	}
	var errs [3]error
	r.Time, errs[0] = strconv.Atoi(m[6])
	r.Seq, errs[1] = strconv.Atoi(m[7])
	r.Count, errs[2] = strconv.Atoi(m[8])
	return r, errs == [3]error{} && r.Time <= 1<<50 && r.Seq <= 1<<50 && r.Count <= 1<<31-1
}

// pickProper picks a proper record.
func pickProper(pick picker) api.Record {
	perms := []string{"read", "write", "_", "for", "denied", "p1", strings.Repeat("q", 32)}
	var some []string
	for _, name := range perms {
		if pick(3) == 0 {
			some = append(some, name)
		}
	}
	if some == nil {
		some = []string{"send"}
	}
	contexts := []string{"a", "}", "to", ":", "u:r:t:s0-s1:c0.c3", "{", "permissive", "~!"}
	numbers := []int{0, 1, 2, 10, 99, 1 << 20, 1<<50 - 1, 1 << 50}
	return api.Record{
		Time: one(pick, numbers...), Seq: one(pick, numbers...), Count: one(pick, 1, 2, 10, 1<<31-1),
		Granted: pick(2) == 0, Permissive: pick(2) == 0,
		Source: one(pick, contexts...), Target: one(pick, contexts...), Class: one(pick, "file", "time", "count"), Perms: some,
	}
}

// pickWords changes a text at one or two places, by words or by bytes.
func pickWords(pick picker, s string) string {
	for range 1 + pick(2) {
		l := strings.Split(s, " ")
		at := pick(len(l))
		word := one(pick, "", "a", "0", "01", "-1", "}", "{", ":", "to", "permissive", "granted", "self", "é", "1125899906842625", "2147483648", "99999999999999999999", l[pick(len(l))])
		switch pick(4) {
		case 0:
			l = slices.Delete(l, at, at+1)
		case 1:
			l = slices.Insert(l, at, word)
		default:
			l[at] = word
		}
		s = strings.Join(l, " ")
	}
	return s
}

// P32.3, P32.7: Parse of the Text of a record is the record, and Parse of other texts is what their form says.
func TestParseModel(t *testing.T) {
	shape := regexp.MustCompile(form)
	good, bad := 0, 0
	for seed := range 20000 {
		pick := newPicker(seed)
		r := pickProper(pick)
		text, err := auditlog.Text(r)
		if back, ok := parsed(shape, text); err != api.OK || !ok || !reflect.DeepEqual(back, r) {
			t.Fatalf("Text(%v): got %q, %v", r, text, err)
		}
		checkText(t, r, text)
		s := pickWords(pick, text)
		want, ok := parsed(shape, s)
		if !ok {
			checkNoText(t, s)
			bad++
			continue
		}
		checkText(t, want, s)
		good++
	}
	if min(good, bad) < 1000 {
		t.Errorf("got only %d texts of records, and %d other ones", good, bad)
	}
}

// P32.2, P32.5: two records have one key exactly if they are equal in kind.
func TestKeys(t *testing.T) {
	same, other := 0, 0
	for seed := range 3000 {
		pick := newPicker(seed)
		a, b := pickRecord(pick, 1), pickRecord(pick, 2)
		a.Count, b.Count = 1, 1
		if auditlog.Check(a) != api.OK || auditlog.Check(b) != api.OK {
			continue
		}
		l := newLog(t, 2, 1, 1000)
		checkAdd(t, l, a, true)
		if !auditlog.Same(a, b) {
			other++
			checkAdd(t, l, b, true)
			checkLog(t, l, 0, 0, a, b)
			continue
		}
		same++
		checkAdd(t, l, b, false)
		checkLog(t, l, 1, 0, a)
	}
	if min(same, other) < 200 {
		t.Errorf("got only %d pairs that are equal in kind, and %d others", same, other)
	}
}
