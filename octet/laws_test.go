package octet_test

import (
	"slices"
	"testing"

	"accesscontrol/api"
	"accesscontrol/octet"
)

// putters are the functions that append, each with some of its values.
func putters() []func([]byte) []byte {
	var l []func([]byte) []byte
	for _, n := range numbers() {
		l = append(l, func(b []byte) []byte { return octet.PutNumber(b, n) })
	}
	for _, n := range integers() {
		l = append(l, func(b []byte) []byte { return octet.PutSigned(b, n) })
	}
	for _, s := range texts() {
		l = append(l, func(b []byte) []byte { return octet.PutText(b, s) })
	}
	for _, s := range sets() {
		l = append(l, func(b []byte) []byte { return octet.PutSet(b, s) })
	}
	return l
}

// P3.4: values that were appended one behind the other are decoded in the same order.
func TestRoundTrip(t *testing.T) {
	var b []byte
	for _, n := range numbers() {
		b = octet.PutNumber(b, n)
	}
	for _, s := range texts() {
		b = octet.PutText(b, s)
	}
	for _, n := range integers() {
		b = octet.PutSigned(b, n)
	}
	for _, s := range sets() {
		b = octet.PutSet(b, s)
	}
	rest, e := octet.Open(octet.Seal(b))
	if !slices.Equal(rest, b) || e != api.OK {
		t.Fatalf("Open: got %v, %v", rest, e)
	}
	for _, want := range numbers() {
		var n uint64
		if n, rest, e = octet.Number(rest); n != want || e != api.OK {
			t.Fatalf("Number: got %d, %v, want %d", n, e, want)
		}
	}
	for _, want := range texts() {
		var s string
		if s, rest, e = octet.Text(rest, len(want)); s != want || e != api.OK {
			t.Fatalf("Text: got %.20q, %v, want %.20q", s, e, want)
		}
	}
	for _, want := range integers() {
		var n int64
		if n, rest, e = octet.Signed(rest); n != want || e != api.OK {
			t.Fatalf("Signed: got %d, %v, want %d", n, e, want)
		}
	}
	for _, want := range sets() {
		var s api.Set
		if s, rest, e = octet.Set(rest); s != want || e != api.OK {
			t.Fatalf("Set: got %v, %v, want %v", s, e, want)
		}
	}
	if len(rest) != 0 {
		t.Errorf("the rest is %v", rest)
	}
}

// P3.5: what is decoded from any few bytes is encoded by the bytes before the rest.
func TestOneEncoding(t *testing.T) {
	l := byteStrings(letters(), 5)
	for c := range 256 {
		l = append(l, append(slices.Repeat([]byte{128}, 9), byte(c), 0), append(slices.Repeat([]byte{255}, 8), byte(c), 1))
	}
	for _, b := range l {
		check := func(name string, encoding, rest []byte, e api.Errno) {
			if e != api.OK {
				return
			}
			if !slices.Equal(slices.Concat(encoding, rest), b) {
				t.Errorf("%s(%v): the value is encoded as %v, and the rest is %v", name, b, encoding, rest)
			}
		}
		n, rest, e := octet.Number(b)
		check("Number", octet.PutNumber(nil, n), rest, e)
		i, rest, e := octet.Signed(b)
		check("Signed", octet.PutSigned(nil, i), rest, e)
		text, rest, e := octet.Text(b, 300)
		check("Text", octet.PutText(nil, text), rest, e)
		s, rest, e := octet.Set(b)
		check("Set", octet.PutSet(nil, s), rest, e)
		inner, e := octet.Open(b)
		check("Open", octet.Seal(inner), nil, e)
	}
}

// within returns bytes as a part of longer memory, with spare capacity behind them, and that memory.
func within(b []byte, spare int) (part, memory []byte) {
	memory = slices.Concat([]byte{11}, b, slices.Repeat([]byte{222}, spare))
	return memory[1 : 1+len(b)], memory
}

// P3.6: what is appended to bytes is what is appended to none; the bytes, and what stands behind them, stay as they are.
func TestAppend(t *testing.T) {
	for _, put := range putters() {
		want := put(nil)
		for _, begin := range [][]byte{nil, {}, {0}, {128}, {9, 255, 128}} {
			for _, spare := range []int{0, 1, 2, 40} {
				b, memory := within(begin, spare)
				old := slices.Clone(memory)
				if got := put(b); !slices.Equal(got, slices.Concat(begin, want)) {
					t.Errorf("%v with %d bytes behind it: got %.20v, want %.20v behind it", begin, spare, got, want)
				}
				if !slices.Equal(memory, old) {
					t.Errorf("%v with %d bytes behind it: the memory changed to %v", begin, spare, memory)
				}
			}
		}
	}
}

// P3.6: Seal appends the checksum of all bytes, and does not write behind them.
func TestSealAppends(t *testing.T) {
	for _, begin := range [][]byte{nil, {}, {97}, {9, 255, 128}} {
		want := octet.Seal(slices.Clone(begin))
		for _, spare := range []int{0, 1, 4, 40} {
			b, memory := within(begin, spare)
			old := slices.Clone(memory)
			if got := octet.Seal(b); !slices.Equal(got, want) || !slices.Equal(memory, old) {
				t.Errorf("Seal(%v) with %d bytes behind it: got %v, want %v; the memory is %v", begin, spare, got, want, memory)
			}
		}
	}
}

// P3.6: two results of appending to the same bytes, which have spare capacity, do not disturb each other.
func TestAppendTwice(t *testing.T) {
	for i, put := range putters() {
		b := make([]byte, 2, 64)
		first := put(b)
		old := slices.Clone(first)
		octet.PutNumber(b, 1<<64-1)
		octet.PutSigned(b, -1<<63)
		octet.PutText(b, "text")
		octet.PutSet(b, api.Set{7, 7, 7, 7})
		octet.Seal(b)
		if !slices.Equal(first, old) {
			t.Errorf("case %d: the result changed from %.20v to %.20v", i, old, first)
		}
	}
}

// decoders are the functions that decode, each with an encoding and the rest that it returns.
func decoders() []struct {
	name     string
	encoding []byte
	rest     func([]byte) ([]byte, api.Errno)
} {
	number := func(b []byte) ([]byte, api.Errno) { _, rest, e := octet.Number(b); return rest, e }
	signed := func(b []byte) ([]byte, api.Errno) { _, rest, e := octet.Signed(b); return rest, e }
	text := func(b []byte) ([]byte, api.Errno) { _, rest, e := octet.Text(b, 9); return rest, e }
	set := func(b []byte) ([]byte, api.Errno) { _, rest, e := octet.Set(b); return rest, e }
	return []struct {
		name     string
		encoding []byte
		rest     func([]byte) ([]byte, api.Errno)
	}{
		{"Number", octet.PutNumber(nil, 300), number},
		{"Signed", octet.PutSigned(nil, -300), signed},
		{"Text", octet.PutText(nil, "ab"), text},
		{"Text", octet.PutText(nil, ""), text},
		{"Set", octet.PutSet(nil, api.Set{1, 300}), set},
		{"Set", octet.PutSet(nil, api.Set{}), set},
	}
}

// P3.4: the rest is the part of the argument that follows, and appending to it does not write behind the argument.
func TestRestIsPart(t *testing.T) {
	for _, x := range decoders() {
		b, memory := within(append(x.encoding, 5, 6), 3)
		old := slices.Clone(memory)
		rest, e := x.rest(b)
		if !slices.Equal(rest, []byte{5, 6}) || e != api.OK || !slices.Equal(memory, old) {
			t.Fatalf("%s: got %v, %v; the memory is %v", x.name, rest, e, memory)
		}
		if cap(rest) != len(rest) || !slices.Equal(append(rest, 7), []byte{5, 6, 7}) || !slices.Equal(memory, old) {
			t.Errorf("%s: the rest has the capacity %d; the memory is %v", x.name, cap(rest), memory)
		}
		b[len(b)-1] = 66
		if !slices.Equal(rest, []byte{5, 66}) {
			t.Errorf("%s: the rest %v does not share the memory of the argument", x.name, rest)
		}
	}
}

// P3.2, P3.3: the string of Text and the bytes of Open have memory of their own.
func TestValuesAreNew(t *testing.T) {
	b := octet.PutText(nil, "ab")
	s, _, _ := octet.Text(b, 2)
	b[1] = 'x'
	if s != "ab" {
		t.Errorf("the string changed to %q", s)
	}
	sealed, memory := within(octet.Seal([]byte{1, 2}), 3)
	old := slices.Clone(memory)
	inner, _ := octet.Open(sealed)
	if !slices.Equal(append(inner, 9), []byte{1, 2, 9}) || !slices.Equal(memory, old) {
		t.Errorf("Open: got %v; the memory is %v", inner, memory)
	}
	sealed[0] = 77
	if !slices.Equal(inner, []byte{1, 2}) {
		t.Errorf("the bytes changed to %v", inner)
	}
	inner[1] = 88
	if !slices.Equal(sealed[:2], []byte{77, 2}) {
		t.Errorf("the argument changed to %v", sealed)
	}
}
