package binary

import (
	"bytes"
	"math"

	"accesscontrol/api"
	"accesscontrol/linker"
	"accesscontrol/octet"
)

// reader is a coder that reads from the bytes that have not been read yet. A method that meets an error panics with it, as an api.Errno.
type reader struct {
	rest    []byte
	version int
}

// open returns the reader of an encoding, behind its version.
func open(b []byte) *reader {
	b, code := octet.Open(b)
	require(code == api.OK, code)
	require(len(b) >= len(magic), api.ErrShort)
	rest, found := bytes.CutPrefix(b, []byte(magic))
	require(found, api.ErrForm)
	r := &reader{rest: rest}
	version := next(r, octet.Number)
	require(version <= math.MaxInt && isVersion(int(version)), api.ErrVersion)
	r.version = int(version)
	return r
}

// require panics with an error unless something holds.
func require(holds bool, code api.Errno) {
	if !holds {
		panic(code)
	}
}

// next reads a part by a function of octet.
func next[T any](r *reader, decode func([]byte) (T, []byte, api.Errno)) T {
	part, rest, code := decode(r.rest)
	require(code == api.OK, code)
	r.rest = rest
	return part
}

// valid reads a policy up to the end of the bytes, and checks it.
func (r *reader) valid() api.Policy {
	p := r.policy()
	require(len(r.rest) == 0, api.ErrForm)
	code := linker.Check(p)
	require(code == api.OK, code)
	return p
}

func (r *reader) policy() api.Policy {
	var p api.Policy
	policy(r, &p)
	return p
}

func (r *reader) since(version int) bool { return r.version >= version }

func (r *reader) length(int) int {
	var n int
	r.number(&n)
	return n
}

func (r *reader) number(n *int) {
	var v uint32
	r.vector(&v)
	*n = int(v)
}

func (r *reader) signed(n *int) {
	v := next(r, octet.Signed)
	require(math.MinInt32 <= v && v <= math.MaxInt32, api.ErrRange)
	*n = int(v)
}

func (r *reader) vector(v *uint32) {
	n := next(r, octet.Number)
	require(n <= math.MaxUint32, api.ErrRange)
	*v = uint32(n)
}

func (r *reader) categories(c *uint64) { *c = next(r, octet.Number) }

func (r *reader) boolean(b *bool) {
	var n int
	r.number(&n)
	require(n <= 1, api.ErrForm)
	*b = n == 1
}

func (r *reader) text(s *string) {
	*s = next(r, func(b []byte) (string, []byte, api.Errno) { return octet.Text(b, api.MaxPath) })
}

func (r *reader) set(s *api.Set) { *s = next(r, octet.Set) }

func (r *reader) operator(op *int, level int) {
	r.number(op)
	require(api.ExprName <= *op && *op <= api.ExprIn, api.ErrForm)
	require(level <= api.MaxNest, api.ErrLong)
}
