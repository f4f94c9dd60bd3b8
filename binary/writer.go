package binary

import (
	"bytes"

	"accesscontrol/api"
	"accesscontrol/octet"
)

// writer is a coder that appends what it is given to a buffer.
type writer struct {
	bytes.Buffer
	version int
}

// seal returns the encoding of a policy.
func seal(p api.Policy, version int) []byte {
	w := writer{version: version}
	w.WriteString(magic)
	w.number(&w.version)
	policy(&w, &p)
	return octet.Seal(w.Bytes())
}

// writeLists returns what stands between the version and the checksum.
func writeLists(p api.Policy, version int) []byte {
	w := writer{version: version}
	policy(&w, &p)
	return w.Bytes()
}

func (w *writer) since(version int) bool { return w.version >= version }

func (w *writer) length(n int) int {
	w.number(&n)
	return n
}

func (w *writer) number(n *int) { w.Write(octet.PutNumber(nil, uint64(*n))) }

func (w *writer) signed(n *int) { w.Write(octet.PutSigned(nil, int64(*n))) }

func (w *writer) vector(v *uint32) { w.Write(octet.PutNumber(nil, uint64(*v))) }

func (w *writer) categories(c *uint64) { w.Write(octet.PutNumber(nil, *c)) }

func (w *writer) boolean(b *bool) {
	n := 0
	if *b {
		n = 1
	}
	w.number(&n)
}

func (w *writer) text(s *string) { w.Write(octet.PutText(nil, *s)) }

func (w *writer) set(s *api.Set) { w.Write(octet.PutSet(nil, *s)) }

func (w *writer) operator(op *int, _ int) { w.number(op) }
