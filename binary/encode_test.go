package binary_test

import (
	"math"
	"strings"
	"testing"

	"accesscontrol/api"
	"accesscontrol/binary"
	"accesscontrol/octet"
)

// category63 is the encoding of the set of the last category.
const category63 = "\x80\x80\x80\x80\x80\x80\x80\x80\x80\x01"

// categoryNames is the list of the 64 categories of plain.
func categoryNames() string {
	s := "\x40"
	for _, name := range plain().Cats {
		s += "\x03" + name
	}
	return s
}

// P25.2: the lists of a policy in version 1, byte by byte.
func TestBytesOfFirstVersion(t *testing.T) {
	want := "ACPB\x01" +
		"\x01\x01f\x02\x01r\x01w" +
		"\x02\x01a\x02\x02aa\x02ab\x01b\x00" +
		"\x01\x02at\x01\x03" +
		"\x03\x08object_r\x00\x00\x01m\x01\x02\x01\x06\x01n\x00\x00" +
		"\x01\x01u\x01\x06\x00" + category63 + "\x00\x00\x01" + category63 +
		"\x02\x01x\x01\x01y\x00" +
		"\x02\x01s\x01t" +
		categoryNames() +
		"\x02\x01\x00\x02\x05\x01\x00\x01\x01" +
		"\x02\x01\x01\x01\x01\x02\x01\x00\x03\x03\x04\x01\x02\x01\x03\x00\x00\x01\x00" +
		"\x01\x03\x01\x01\x01\x02\x00\x01\x02" +
		"\x01\x01\x02\x01\x03\x00\x02" +
		"\x02\x00\x02\x00\x08\x04\x02\x08\x00\x00\x01\x09\x0c\x01\x02" +
		"\x01\x01k\x00\x01\x01\x00\x00\x01" + category63
	checkBytes(t, plain(), 1, want)
}

// P25.2: version 2 has Permissive, Name and Ranges, also where they are not used.
func TestBytesOfSecondVersion(t *testing.T) {
	want := "ACPB\x02" +
		"\x01\x01f\x02\x01r\x01w" +
		"\x02\x01a\x02\x02aa\x02ab\x00\x01b\x00\x00" +
		"\x01\x02at\x01\x03" +
		"\x03\x08object_r\x00\x00\x01m\x01\x02\x01\x06\x01n\x00\x00" +
		"\x01\x01u\x01\x06\x00" + category63 + "\x00\x00\x01" + category63 +
		"\x02\x01x\x01\x01y\x00" +
		"\x02\x01s\x01t" +
		categoryNames() +
		"\x02\x01\x00\x02\x05\x01\x00\x01\x01" +
		"\x02\x01\x01\x01\x01\x02\x01\x00\x03\x03\x04\x01\x02\x01\x03\x00\x00\x01\x00" +
		"\x01\x03\x01\x01\x01\x02\x00\x00\x01\x02" +
		"\x01\x01\x02\x01\x03\x00\x02" +
		"\x00" +
		"\x02\x00\x02\x00\x08\x04\x02\x08\x00\x00\x01\x09\x0c\x01\x02" +
		"\x01\x01k\x00\x01\x01\x00\x00\x01" + category63
	checkBytes(t, plain(), 2, want)
	checkBytes(t, plain(), 3, strings.Replace(want, "\x02", "\x03", 1)+"\x00\x00")
}

// P25.2: version 3 has everything.
func TestBytesOfThirdVersion(t *testing.T) {
	want := "ACPB\x03" +
		"\x01\x01f\x02\x01r\x01w" +
		"\x02\x01a\x02\x02aa\x02ab\x00\x01b\x00\x01" +
		"\x01\x02at\x01\x03" +
		"\x03\x08object_r\x00\x00\x01m\x01\x02\x01\x06\x01n\x00\x00" +
		"\x01\x01u\x01\x06\x00" + category63 + "\x00\x00\x01" + category63 +
		"\x02\x01x\x01\x01y\x00" +
		"\x02\x01s\x01t" +
		categoryNames() +
		"\x02\x01\x00\x02\x05\x01\x00\x01\x01" +
		"\x02\x01\x01\x01\x01\x02\x01\x00\x03\x03\x04\x01\x02\x01\x03\x00\x00\x01\x00" +
		"\x02\x03\x01\x01\x01\x02\x00\x00\x01\x02\x01\x01\x02\x01\x01\x00\x03log\x00\x00" +
		"\x01\x01\x02\x01\x03\x00\x02" +
		"\x01\x01\x01\x01\x03\x00\x00\x01\x01\x81\x01" +
		"\x02\x00\x02\x00\x08\x04\x02\x08\x00\x00\x01\x09\x0c\x01\x02" +
		"\x01\x01k\x00\x01\x01\x00\x00\x01" + category63 +
		"\x01\x04/e.*\x04\x00\x00\x01\x00\x00\x00\x00" +
		"\x01\x01q\x03\x01\x01\x01\x02"
	checkBytes(t, full(), 3, want)
}

// checkBytes checks an encoding, and that it is decoded.
func checkBytes(t *testing.T, p api.Policy, version int, want string) {
	t.Helper()
	b := encoded(t, p, version)
	if string(b) != string(octet.Seal([]byte(want))) {
		t.Errorf("Encode in %d: got %q, want %q and four bytes", version, b, want)
	}
	checkDecode(t, b, p, version, api.OK)
}

// P25.2: the policy of no module, and the example of the chapter.
func TestBytesOfExamples(t *testing.T) {
	checkBytes(t, linked(t, ""), 1, "ACPB\x01\x00\x00\x00\x01\x08object_r\x00\x00"+strings.Repeat("\x00", 10))
	checkBytes(t, linked(t, ""), 2, "ACPB\x02\x00\x00\x00\x01\x08object_r\x00\x00"+strings.Repeat("\x00", 11))
	checkBytes(t, linked(t, ""), 3, "ACPB\x03\x00\x00\x00\x01\x08object_r\x00\x00"+strings.Repeat("\x00", 13))
	b := encoded(t, linked(t, small), 1)
	if !strings.HasPrefix(string(b), string([]byte{65, 67, 80, 66, 1, 3})+"\x07process\x04\x04fork") {
		t.Errorf("got %q", b)
	}
	for _, version := range []int{1, 2} {
		p := linked(t, small+"filecon \"/etc\" any root:object_r:file_t:s0;")
		if b, code := binary.Encode(p, version); len(b) != 0 || code != api.ErrArg {
			t.Errorf("Encode in %d: got %q, %v", version, b, code)
		}
	}
}

// P25.2: sets with elements in each of their parts.
func TestBytesOfSets(t *testing.T) {
	for _, x := range []struct {
		set  api.Set
		want string
	}{
		{api.Set{}, "\x00"},
		{api.Set{128}, "\x01\x80\x01"},
		{api.Set{0, 1}, "\x02\x00\x01"},
		{api.Set{0, 0, 0, 1 << 63}, "\x04\x00\x00\x00" + category63},
		{api.Set{1, 0, 3}, "\x03\x01\x00\x03"},
	} {
		p := api.Policy{Roles: []api.Role{{Name: api.ObjectRole}}, Attrs: []api.Attr{{Name: "zz", Types: x.set}}}
		for n := range api.MaxTypes {
			p.Types = append(p.Types, api.Type{Name: "t" + string(rune('a'+n/16)) + string(rune('a'+n%16))})
		}
		if b := encoded(t, p, 1); !strings.Contains(string(b), "\x01\x02zz"+x.want+"\x01\x08object_r") {
			t.Errorf("%v: got %q", x.set, b)
		}
	}
}

// P25.2: the encoding of random policies, in all versions, is that of the model.
func TestEncodingOfRandomPolicies(t *testing.T) {
	for seed := range 1500 {
		p := newPicker(seed).policy(t, 1+seed%3)
		least, _ := binary.Least(p)
		for _, version := range []int{1, 2, 3} {
			b, code := binary.Encode(p, version)
			if version < least {
				if len(b) != 0 || code != api.ErrArg {
					t.Errorf("seed %d, version %d: got %q, %v", seed, version, b, code)
				}
				continue
			}
			if want, _ := encodeModel(p, version); code != api.OK || string(b) != string(octet.Seal([]byte(want))) {
				t.Errorf("seed %d, version %d: got %q, %v, want %q", seed, version, b, code, want)
			}
		}
	}
}

// P25.2: the errors, in their order.
func TestErrorsOfEncode(t *testing.T) {
	broken := changed(full(), func(p *api.Policy) { p.Classes[0].Perms = nil })
	repeated := changed(full(), func(p *api.Policy) { p.Sens[1] = "s" })
	second := changed(plain(), func(p *api.Policy) { p.Types[0].Permissive = true })
	for _, x := range []struct {
		p       api.Policy
		version int
		want    api.Errno
	}{
		{plain(), 0, api.ErrVersion},
		{plain(), 4, api.ErrVersion},
		{plain(), -1, api.ErrVersion},
		{plain(), math.MinInt, api.ErrVersion},
		{plain(), math.MaxInt, api.ErrVersion},
		{plain(), 257, api.ErrVersion},
		{broken, 0, api.ErrVersion},
		{api.Policy{}, 4, api.ErrVersion},
		{broken, 1, api.ErrArg}, // a class without permissions, not the version
		{repeated, 1, api.ErrTwice},
		{repeated, 3, api.ErrTwice},
		{full(), 1, api.ErrArg},
		{full(), 2, api.ErrArg},
		{full(), 3, api.OK},
		{second, 1, api.ErrArg},
		{second, 2, api.OK},
		{second, 3, api.OK},
		{plain(), 1, api.OK},
	} {
		if b, code := binary.Encode(x.p, x.version); code != x.want || (len(b) > 0) != (code == api.OK) {
			t.Errorf("Encode(%s, %d): got %d bytes, %v, want %v", brief(x.p), x.version, len(b), code, x.want)
		}
	}
}
