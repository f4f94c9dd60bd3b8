package auditlog

import (
	"strconv"
	"strings"

	"accesscontrol/api"
)

// The words of a text that a record's fields decide about.
const (
	granted    = "granted"
	denied     = "denied"
	permissive = "permissive"
	closing    = "}"
)

// Text returns a record as a line of text, without a line end.
func Text(r api.Record) (string, api.Errno) {
	if err := Check(r); err != api.OK {
		return "", err
	}
	return write(r), api.OK
}

// Parse returns the record that a line denotes.
func Parse(s string) (api.Record, api.Errno) {
	r := read(s)
	// Only the text itself is accepted, so read need not look at the words between the fields, nor at the form of numbers.
	if text, err := Text(r); err != api.OK || text != s {
		return api.Record{}, api.ErrSyntax
	}
	return r, api.OK
}

// key returns the text that all records of one kind have.
func key(r api.Record) string {
	r.Time, r.Seq, r.Count = 0, 0, 1
	return write(r)
}

// write returns the text of a proper record.
func write(r api.Record) string {
	l := []string{denied, "{"}
	if r.Granted {
		l[0] = granted
	}
	l = append(l, r.Perms...)
	l = append(l, closing, "for", r.Source, "to", r.Target, ":", r.Class)
	l = append(l, "time", strconv.Itoa(r.Time), "seq", strconv.Itoa(r.Seq), "count", strconv.Itoa(r.Count))
	if r.Permissive {
		l = append(l, permissive)
	}
	return strings.Join(l, " ")
}

// read returns the record whose fields have the values that stand in their places in a text.
func read(s string) api.Record {
	var r api.Record
	var word string
	text := words{rest: s}
	r.Granted = text.next() == granted
	text.next()

permission:
	word = text.next()
	if word == closing || word == "" {
		goto contexts
	}
	r.Perms = append(r.Perms, word)
	goto permission

contexts:
	r.Source = text.behind()
	r.Target = text.behind()
	r.Class = text.behind()
	r.Time = text.number()
	r.Seq = text.number()
	r.Count = text.number()
	r.Permissive = text.next() == permissive
	return r
}

// words are the words of a text that have not been read yet. There is one space between two of them.
type words struct{ rest string }

// next returns the next word; an empty one behind the last one.
func (w *words) next() string {
	word, rest, _ := strings.Cut(w.rest, " ")
	w.rest = rest
	return word
}

// behind returns the word that follows the next one.
func (w *words) behind() string {
	w.next()
	return w.next()
}

// number returns the number that follows the next word.
func (w *words) number() int {
	n, _ := strconv.Atoi(w.behind())
	return n
}
