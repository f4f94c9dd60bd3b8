package octet_test

import (
	"encoding/binary"
	"hash/fnv"
	"math"
	"slices"
	"strings"
	"testing"

	"accesscontrol/api"
	"accesscontrol/octet"
)

// numbers are 0, and the least and the greatest number of each length of the encoding, with their neighbours.
func numbers() []uint64 {
	l := []uint64{0, 1, 2, 126, 300, math.MaxInt64, math.MaxInt64 + 1, math.MaxUint64 - 1, math.MaxUint64, 0x5555555555555555, 0xAAAAAAAAAAAAAAAA}
	for k := 1; k <= 9; k++ {
		least := uint64(1) << (7 * k)
		l = append(l, least-1, least, least+1)
	}
	return l
}

func integers() []int64 {
	l := []int64{0, math.MaxInt64, math.MinInt64, math.MaxInt64 - 1, math.MinInt64 + 1}
	for k := range 63 {
		n := int64(1) << k
		l = append(l, n-1, n, -n, -n-1)
	}
	return l
}

// texts have the shortest and longest lengths that one or two bytes encode, and of any bytes.
func texts() []string {
	l := []string{"", "a", "ab", "\x00", "\xff\xfe", "é", "\x80\x01", "\x00\x00\x00"}
	for _, n := range []int{126, 127, 128, 129, 16383, 16384} {
		l = append(l, strings.Repeat("x", n))
	}
	return l
}

func sets() []api.Set {
	full := uint64(math.MaxUint64)
	return []api.Set{
		{}, {1}, {5}, {full}, {0, 1}, {1, 1}, {0, 0, 1}, {1, 0, 1}, {full, full, full},
		{0, 0, 0, 1}, {0, 0, 0, 1 << 63}, {1 << 63, 0, 0, 1}, {full, full, full, full}, {128, 127, 0, 300},
	}
}

// ends are what may stand behind an encoding.
func ends() [][]byte {
	return [][]byte{nil, {0}, {7}, {128}, {255, 255}, {0, 0, 0, 0, 0}}
}

// byteStrings returns all byte strings of at most so many of the bytes.
func byteStrings(letters []byte, most int) [][]byte {
	l := [][]byte{{}}
	for begin, n := 0, 0; n < most; n++ {
		end := len(l)
		for _, s := range l[begin:end] {
			for _, c := range letters {
				l = append(l, append(slices.Clone(s), c))
			}
		}
		begin = end
	}
	return l
}

// letters are bytes that end, continue and spoil encodings.
func letters() []byte { return []byte{0, 1, 2, 5, 127, 128, 129, 255} }

// P3.1: PutNumber, by the document's examples, and compared with another program.
func TestPutNumber(t *testing.T) {
	for _, x := range []struct {
		n    uint64
		want []byte
	}{
		{0, []byte{0}},
		{1, []byte{1}},
		{127, []byte{127}},
		{128, []byte{128, 1}},
		{300, []byte{172, 2}},
		{16383, []byte{255, 127}},
		{16384, []byte{128, 128, 1}},
		{1<<63 - 1, []byte{255, 255, 255, 255, 255, 255, 255, 255, 127}},
		{1 << 63, []byte{128, 128, 128, 128, 128, 128, 128, 128, 128, 1}},
		{1<<64 - 1, []byte{255, 255, 255, 255, 255, 255, 255, 255, 255, 1}},
	} {
		if got := octet.PutNumber(nil, x.n); !slices.Equal(got, x.want) {
			t.Errorf("PutNumber(nil, %d): got %v, want %v", x.n, got, x.want)
		}
	}
	for _, n := range numbers() {
		if got, want := octet.PutNumber(nil, n), binary.AppendUvarint(nil, n); !slices.Equal(got, want) {
			t.Errorf("PutNumber(nil, %d): got %v, want %v", n, got, want)
		}
	}
}

// checkNumber compares what Number returns with what it should return; with an error, all else is zero.
func checkNumber(t *testing.T, b []byte, n uint64, rest []byte, code api.Errno) {
	t.Helper()
	if m, r, e := octet.Number(b); m != n || !slices.Equal(r, rest) || e != code {
		t.Errorf("Number(%v): got %d, %v, %v, want %d, %v, %v", b, m, r, e, n, rest, code)
	}
}

// P3.1: Number of each length.
func TestNumber(t *testing.T) {
	for _, n := range numbers() {
		for _, end := range ends() {
			checkNumber(t, append(binary.AppendUvarint(nil, n), end...), n, end, api.OK)
		}
	}
}

// P3.1: the errors of Number, the first one by the order of the bytes.
func TestNumberErrors(t *testing.T) {
	for most := range 10 {
		high := slices.Repeat([]byte{255}, most)
		low := slices.Repeat([]byte{128}, most)
		checkNumber(t, high, 0, nil, api.ErrShort)
		checkNumber(t, low, 0, nil, api.ErrShort)
		if most > 0 {
			checkNumber(t, append(high, 0), 0, nil, api.ErrForm)
			checkNumber(t, append(low, 0, 1), 0, nil, api.ErrForm)
		}
	}
	checkNumber(t, nil, 0, nil, api.ErrShort)
	checkNumber(t, []byte{}, 0, nil, api.ErrShort)
	nine := slices.Repeat([]byte{128}, 9)
	for c := range 256 {
		want := api.ErrForm
		if c == 1 {
			want = api.OK
		}
		for _, b := range [][]byte{append(slices.Clone(nine), byte(c)), append(slices.Clone(nine), byte(c), 0), append(slices.Clone(nine), byte(c), 128)} {
			if _, _, e := octet.Number(b); e != want {
				t.Errorf("Number(%v): got %v", b, e)
			}
		}
	}
	checkNumber(t, []byte{128, 0, 0}, 0, nil, api.ErrForm)
	checkNumber(t, []byte{0, 0}, 0, []byte{0}, api.OK)
	checkNumber(t, []byte{0, 128}, 0, []byte{128}, api.OK)
}

// decode tells by the definition what a number at the beginning of b is: the bytes up to the first one without a high bit.
func decode(b []byte) (uint64, int, api.Errno) {
	n, factor := uint64(0), uint64(1)
	for i, c := range b {
		if i == 9 && c > 1 || i != 0 && c == 0 {
			return 0, 0, api.ErrForm
		}
		n += uint64(c%128) * factor
		factor *= 128
		if c < 128 {
			return n, i + 1, api.OK
		}
	}
	return 0, 0, api.ErrShort
}

// P3.1: Number of any few bytes.
func TestNumberOfAnyBytes(t *testing.T) {
	for _, b := range byteStrings(letters(), 5) {
		n, used, code := decode(b)
		rest := b[used:]
		if code != api.OK {
			rest = nil
		}
		checkNumber(t, b, n, rest, code)
	}
}

// P3.1: PutSigned and Signed.
func TestSigned(t *testing.T) {
	for n, folded := range map[int64]uint64{0: 0, -1: 1, 1: 2, -2: 3, 2: 4, 63: 126, -64: 127, 64: 128, -65: 129, math.MaxInt64: 1<<64 - 2, math.MinInt64: 1<<64 - 1} {
		want := binary.AppendUvarint(nil, folded)
		if got := octet.PutSigned(nil, n); !slices.Equal(got, want) {
			t.Errorf("PutSigned(nil, %d): got %v, want %v", n, got, want)
		}
	}
	for _, n := range integers() {
		want := binary.AppendVarint(nil, n)
		if got := octet.PutSigned(nil, n); !slices.Equal(got, want) {
			t.Errorf("PutSigned(nil, %d): got %v, want %v", n, got, want)
		}
		for _, end := range ends() {
			if m, rest, e := octet.Signed(append(slices.Clone(want), end...)); m != n || !slices.Equal(rest, end) || e != api.OK {
				t.Errorf("Signed(%v, %v): got %d, %v, %v, want %d", want, end, m, rest, e, n)
			}
		}
	}
}

// P3.1: the errors of Signed are those of Number.
func TestSignedErrors(t *testing.T) {
	l := byteStrings(letters(), 4)
	for c := range 256 {
		l = append(l, append(slices.Repeat([]byte{255}, 9), byte(c)), slices.Repeat([]byte{byte(c)}, 9))
	}
	for _, b := range l {
		_, restOfNumber, want := octet.Number(b)
		n, rest, e := octet.Signed(b)
		if e != want || !slices.Equal(rest, restOfNumber) || e != api.OK && (n != 0 || rest != nil) {
			t.Errorf("Signed(%v): got %d, %v, %v, want %v", b, n, rest, e, want)
		}
	}
}

// P3.2: PutText, and Text with the least bound that permits the string and with others.
func TestText(t *testing.T) {
	if got := octet.PutText(nil, "ab"); !slices.Equal(got, []byte{2, 97, 98}) {
		t.Errorf("PutText(nil, ab): got %v", got)
	}
	for _, s := range texts() {
		want := append(binary.AppendUvarint(nil, uint64(len(s))), s...)
		if got := octet.PutText(nil, s); !slices.Equal(got, want) {
			t.Errorf("PutText(nil, %.20q): got %.20v", s, got)
		}
		for _, end := range ends() {
			for _, most := range []int{len(s), len(s) + 1, math.MaxInt} {
				b := append(slices.Clone(want), end...)
				if got, rest, e := octet.Text(b, most); got != s || !slices.Equal(rest, end) || e != api.OK {
					t.Errorf("Text(%.20v, %d): got %.20q, %v, %v", b, most, got, rest, e)
				}
			}
		}
	}
}

// P3.2: the errors of Text, in the order of the chapter.
func TestTextErrors(t *testing.T) {
	most := slices.Concat(slices.Repeat([]byte{255}, 9), []byte{1})
	for _, x := range []struct {
		b    []byte
		most int
		want api.Errno
	}{
		{nil, 9, api.ErrShort},
		{nil, -1, api.ErrShort},
		{[]byte{128}, 0, api.ErrShort},
		{[]byte{130, 0}, 0, api.ErrForm},
		{[]byte{130, 0, 97, 97}, -1, api.ErrForm},
		{append(slices.Repeat([]byte{255}, 9), 2), 9, api.ErrForm},
		{[]byte{2, 97, 98}, 1, api.ErrLong},
		{[]byte{2, 97}, 1, api.ErrLong},
		{[]byte{2}, 0, api.ErrLong},
		{[]byte{0}, -1, api.ErrLong},
		{[]byte{0, 1}, math.MinInt, api.ErrLong},
		{[]byte{1, 97}, math.MinInt, api.ErrLong},
		{[]byte{1}, -1, api.ErrLong},
		{most, 9, api.ErrLong},
		{most, math.MaxInt, api.ErrLong},
		{binary.AppendUvarint(nil, math.MaxInt+1), math.MaxInt, api.ErrLong},
		{binary.AppendUvarint(nil, math.MaxInt), math.MaxInt, api.ErrShort},
		{binary.AppendUvarint(nil, math.MaxInt), math.MaxInt - 1, api.ErrLong},
		{[]byte{2, 97}, 2, api.ErrShort},
		{[]byte{2}, 2, api.ErrShort},
		{[]byte{1}, math.MaxInt, api.ErrShort},
		{append([]byte{128, 1}, make([]byte, 127)...), 128, api.ErrShort},
	} {
		if s, rest, e := octet.Text(x.b, x.most); s != "" || rest != nil || e != x.want {
			t.Errorf("Text(%.20v, %d): got %q, %v, %v, want %v", x.b, x.most, s, rest, e, x.want)
		}
	}
}

// putSet appends a set by the definition.
func putSet(b []byte, s api.Set) []byte {
	k := 0
	for i, n := range s {
		if n != 0 {
			k = i + 1
		}
	}
	b = append(b, byte(k))
	for _, n := range s[:k] {
		b = binary.AppendUvarint(b, n)
	}
	return b
}

// P3.2: PutSet and Set.
func TestSet(t *testing.T) {
	for _, x := range []struct {
		s    api.Set
		want []byte
	}{
		{api.Set{}, []byte{0}},
		{api.Set{1, 1}, []byte{2, 1, 1}},
		{api.Set{300}, []byte{1, 172, 2}},
		{api.Set{0, 0, 7}, []byte{3, 0, 0, 7}},
		{api.Set{0, 0, 0, 128}, []byte{4, 0, 0, 0, 128, 1}},
	} {
		if got := octet.PutSet(nil, x.s); !slices.Equal(got, x.want) {
			t.Errorf("PutSet(nil, %v): got %v, want %v", x.s, got, x.want)
		}
	}
	for _, s := range sets() {
		b := putSet(nil, s)
		if got := octet.PutSet(nil, s); !slices.Equal(got, b) {
			t.Errorf("PutSet(nil, %v): got %v, want %v", s, got, b)
		}
		for _, end := range ends() {
			if got, rest, e := octet.Set(append(slices.Clone(b), end...)); got != s || !slices.Equal(rest, end) || e != api.OK {
				t.Errorf("Set(%v, %v): got %v, %v, %v, want %v", b, end, got, rest, e, s)
			}
		}
	}
}

// P3.2: the errors of Set, in the order in which the numbers are read.
func TestSetErrors(t *testing.T) {
	for _, x := range []struct {
		b    []byte
		want api.Errno
	}{
		{nil, api.ErrShort},
		{[]byte{128}, api.ErrShort},
		{[]byte{133}, api.ErrShort},
		{[]byte{132, 0}, api.ErrForm},
		{[]byte{5}, api.ErrForm},
		{[]byte{5, 1, 1, 1, 1, 1}, api.ErrForm},
		{[]byte{5, 128}, api.ErrForm},
		{[]byte{128, 1}, api.ErrForm},
		{binary.AppendUvarint(nil, math.MaxUint64), api.ErrForm},
		{binary.AppendUvarint(nil, 1<<32), api.ErrForm},
		{binary.AppendUvarint(nil, 1<<63), api.ErrForm},
		{[]byte{1}, api.ErrShort},
		{[]byte{2, 1}, api.ErrShort},
		{[]byte{4, 1, 1, 1}, api.ErrShort},
		{[]byte{4, 0, 0, 0, 128}, api.ErrShort},
		{[]byte{2, 0, 128}, api.ErrShort},
		{[]byte{2, 0}, api.ErrShort},
		{[]byte{2, 128, 0}, api.ErrForm},
		{[]byte{1, 0}, api.ErrForm},
		{[]byte{2, 1, 0}, api.ErrForm},
		{[]byte{2, 1, 0, 9}, api.ErrForm},
		{[]byte{3, 0, 0, 0}, api.ErrForm},
		{[]byte{4, 1, 1, 1, 0}, api.ErrForm},
		{[]byte{4, 1, 1, 0}, api.ErrShort},
		{append([]byte{1}, append(slices.Repeat([]byte{255}, 9), 2)...), api.ErrForm},
	} {
		if s, rest, e := octet.Set(x.b); s != (api.Set{}) || rest != nil || e != x.want {
			t.Errorf("Set(%v): got %v, %v, %v, want %v", x.b, s, rest, e, x.want)
		}
	}
}

// sum computes the checksum with another program.
func sum(b []byte) uint32 {
	h := fnv.New32a()
	h.Write(b)
	return h.Sum32()
}

// P3.3: Sum.
func TestSum(t *testing.T) {
	if octet.Sum(nil) != 2166136261 || octet.Sum([]byte{}) != 2166136261 || octet.Sum([]byte{97}) != 3826002220 {
		t.Errorf("Sum: got %d, %d, %d", octet.Sum(nil), octet.Sum([]byte{}), octet.Sum([]byte{97}))
	}
	all := make([]byte, 256)
	for i := range all {
		all[i] = byte(255 - i)
	}
	for _, b := range append(byteStrings(letters(), 3), all, make([]byte, 1000)) {
		if got := octet.Sum(b); got != sum(b) {
			t.Errorf("Sum(%v): got %d, want %d", b, got, sum(b))
		}
	}
}

// P3.3: Seal and Open.
func TestSealOpen(t *testing.T) {
	if got := octet.Seal([]byte{97}); !slices.Equal(got, []byte{97, 44, 41, 12, 228}) {
		t.Errorf("Seal(97): got %v", got)
	}
	if got := octet.Seal(nil); !slices.Equal(got, []byte{0xc5, 0x9d, 0x1c, 0x81}) {
		t.Errorf("Seal(nil): got %v", got)
	}
	for _, b := range append(byteStrings(letters(), 3), make([]byte, 1000)) {
		sealed := octet.Seal(b)
		if want := binary.LittleEndian.AppendUint32(slices.Clone(b), sum(b)); !slices.Equal(sealed, want) {
			t.Errorf("Seal(%v): got %v, want %v", b, sealed, want)
		}
		if got, e := octet.Open(sealed); !slices.Equal(got, b) || e != api.OK {
			t.Errorf("Open(%v): got %v, %v", sealed, got, e)
		}
		twice := octet.Seal(sealed)
		if got, e := octet.Open(twice); !slices.Equal(got, sealed) || e != api.OK {
			t.Errorf("Open(%v): got %v, %v", twice, got, e)
		}
	}
}

// P3.3: the errors of Open: too few bytes, and any byte that was changed, added or removed.
func TestOpenErrors(t *testing.T) {
	for _, b := range [][]byte{nil, {}, {0xc5}, {0xc5, 0x9d}, {0xc5, 0x9d, 0x1c}} {
		if got, e := octet.Open(b); got != nil || e != api.ErrShort {
			t.Errorf("Open(%v): got %v, %v", b, got, e)
		}
	}
	check := func(b []byte) {
		t.Helper()
		if got, e := octet.Open(b); got != nil || e != api.ErrSum {
			t.Errorf("Open(%v): got %v, %v", b, got, e)
		}
	}
	check([]byte{0, 0, 0, 0})
	check([]byte{0x81, 0x1c, 0x9d, 0xc5})
	for _, b := range [][]byte{nil, {97}, {0, 0, 128, 255}} {
		sealed := octet.Seal(b)
		for i := range sealed {
			for bit := range 8 {
				changed := slices.Clone(sealed)
				changed[i] ^= 1 << bit
				check(changed)
			}
		}
		check(append(slices.Clone(sealed), 0))
		check(append([]byte{0}, sealed...))
		if len(b) > 0 {
			check(sealed[1:])
			check(sealed[:len(sealed)-1])
		}
	}
}
