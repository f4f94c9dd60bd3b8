package binary_test

import (
	"reflect"
	"slices"
	"strconv"
	"testing"

	"accesscontrol/api"
	"accesscontrol/binary"
	"accesscontrol/octet"
)

// P25.6: Decode of Encode is the policy, and Encode of Decode the bytes; a policy has an encoding exactly in the versions from the least one on.
func TestBack(t *testing.T) {
	count := map[bool]int{}
	for seed := range 900 {
		p := newPicker(seed).policy(t, 1+seed%3)
		least, _ := binary.Least(p)
		for version := -1; version <= 5; version++ {
			b, code := binary.Encode(p, version)
			count[code == api.OK]++
			if (code == api.OK) != (slices.Contains(binary.Versions(), version) && version >= least) {
				t.Fatalf("seed %d, version %d: got %v", seed, version, code)
			}
			if code != api.OK {
				continue
			}
			q, n, code := binary.Decode(b)
			if !same(q, p) || n != version || code != api.OK {
				t.Fatalf("seed %d, version %d: got %s, %d, %v, want %s", seed, version, brief(q), n, code, brief(p))
			}
			if again := encoded(t, q, n); !slices.Equal(again, b) {
				t.Fatalf("seed %d, version %d: got %q, want %q", seed, version, again, b)
			}
		}
	}
	if min(count[true], count[false]) < 500 {
		t.Errorf("got %v", count)
	}
}

// P25.6: bytes that are decoded, although they were damaged, are the encoding of what is decoded.
func TestBackOfDamage(t *testing.T) {
	decoded := 0
	for seed := range 20000 {
		pick := newPicker(seed)
		p := []api.Policy{plain(), full()}[pick(2)]
		b := octet.Seal(pick.damage([]byte(unsealed(encoded(t, p, 3)))))
		q, n, code := binary.Decode(b)
		if code != api.OK {
			continue
		}
		if decoded++; !slices.Equal(encoded(t, q, n), b) {
			t.Errorf("seed %d: got %q, want %q", seed, encoded(t, q, n), b)
		}
	}
	if decoded < 100 {
		t.Errorf("only %d are decoded", decoded)
	}
}

// P25.6: another byte anywhere is found by the checksum.
func TestOtherBytes(t *testing.T) {
	b := encoded(t, full(), 3)
	for i, old := range b {
		for other := range 256 {
			b[i] = byte(other)
			if b[i] == old {
				continue
			}
			if p, n, code := binary.Decode(b); code != api.ErrSum || n != 0 || !same(p, api.Policy{}) {
				t.Fatalf("the byte %d is %d: Decode: got %s, %d, %v", i, other, brief(p), n, code)
			}
			if n, code := binary.Version(b); code != api.ErrSum || n != 0 {
				t.Fatalf("the byte %d is %d: Version: got %d, %v", i, other, n, code)
			}
		}
		b[i] = old
	}
}

// P25.2, P25.3: arguments are not changed, and share no memory with results.
func TestMemory(t *testing.T) {
	p := full()
	b := slices.Grow(encoded(t, p, 3), 100)
	old := slices.Clone(b)
	if !same(p, full()) {
		t.Error("Encode changes the policy")
	}
	q, _, _ := binary.Decode(b)
	if !slices.Equal(b, old) || !slices.Equal(b[len(b):len(b)+8], make([]byte, 8)) {
		t.Error("Decode changes the bytes")
	}
	clear(b)
	if !same(q, p) {
		t.Error("Decode shares memory with the bytes")
	}
	scribble(reflect.ValueOf(q))
	if again, _, _ := binary.Decode(old); !same(again, p) {
		t.Error("results of Decode share memory")
	}
	scribble(reflect.ValueOf(encoded(t, p, 3)))
	if !slices.Equal(encoded(t, p, 3), old) {
		t.Error("results of Encode share memory")
	}
}

// P25.3: the lists of a decoded policy do not share memory with each other.
func TestSeparateLists(t *testing.T) {
	p := full()
	p.Classes = append(p.Classes, api.Class{Name: "g", Perms: []string{"r", "w"}})
	q, _, _ := binary.Decode(encoded(t, p, 3))
	scribble(reflect.ValueOf(q.Classes[:1:1]))
	scribble(reflect.ValueOf(q.Types[:1:1]))
	scribble(reflect.ValueOf(q.Conds[:1:1]))
	q.Classes[0], q.Types[0], q.Conds[0] = p.Classes[0], p.Types[0], p.Conds[0]
	if !same(q, p) {
		t.Errorf("got %s", brief(q))
	}
}

// P1, P25.6: a policy that is as large as it may be.
func TestLargestPolicy(t *testing.T) {
	p := api.Policy{Roles: []api.Role{{Name: api.ObjectRole}}}
	names := func(prefix string, count int) []string {
		var l []string
		for n := range count {
			l = append(l, prefix+strconv.Itoa(n))
		}
		return l
	}
	for _, name := range names("class", api.MaxClasses) {
		p.Classes = append(p.Classes, api.Class{Name: name, Perms: names("perm", api.MaxPerms)})
	}
	for _, name := range names("type", api.MaxTypes) {
		p.Types = append(p.Types, api.Type{Name: name, Aliases: names(name+"_alias", 3), Permissive: true})
	}
	every := api.Set{1<<64 - 1, 1<<64 - 1, 1<<64 - 1, 1<<64 - 1}
	p.Sens, p.Cats = names("sens", api.MaxSens), names("cat", api.MaxCats)
	for _, name := range names("bool", api.MaxBools) {
		p.Bools = append(p.Bools, api.Bool{Name: name})
	}
	for n := range api.MaxConds {
		p.Conds = append(p.Conds, api.Expr{Op: api.ExprOr, Kids: []api.Expr{{Op: api.ExprName, A: n % 16}, {Op: api.ExprName, A: n / 16}}})
	}
	for n := range api.MaxRules {
		p.Rules = append(p.Rules, api.Rule{Kind: 1, Source: every, Target: every, Self: true, Class: n % 32, Perms: 1<<32 - 1, Cond: n%129 - 64})
	}
	for n := range api.MaxTrans {
		p.Trans = append(p.Trans, api.Trans{Kind: 1, Source: every, Target: every, Class: 31, Name: "n" + strconv.Itoa(n), Result: 255, Cond: -64})
		p.Ranges = append(p.Ranges, api.RangeTrans{Source: every, Target: every, Range: api.Range{High: api.Level{Sens: 15, Cats: 1<<64 - 1}}})
	}
	checkValid(t, p)
	checkDecode(t, encoded(t, p, 3), p, 3, api.OK)
	checkDecode(t, encoded(t, p, 2), p, 2, api.OK)
	checkDowngrade(t, p, 1, downgraded(p, 1))
}

// P1: any bytes end without a panic.
func TestAnyBytes(t *testing.T) {
	for seed := range 20000 {
		pick := newPicker(seed)
		b := []byte("ACPB")[:4-pick(2)*pick(5)]
		if pick(4) > 0 {
			b = append(b, byte(1+pick(3)))
		}
		for range pick(60) {
			b = append(b, byte(pick(3)), byte(pick(256)))
		}
		if pick(10) > 0 {
			b = octet.Seal(b)
		}
		p, n, code := binary.Decode(b)
		q, m, want := decodeModel(b)
		if !same(p, q) || n != m || code != want {
			t.Errorf("Decode(%q): got %s, %d, %v, want %s, %d, %v", b, brief(p), n, code, brief(q), m, want)
		}
	}
}

// P1: any policies end without a panic.
func TestAnyPolicy(t *testing.T) {
	deep := api.Expr{Op: api.ExprName}
	for range 50000 {
		deep = api.Expr{Op: api.ExprNot, Kids: []api.Expr{deep}}
	}
	for _, spoil := range append(invalid(), func(p *api.Policy) { p.Conds[0] = deep }, func(p *api.Policy) { p.Constraints[0].Expr = deep }) {
		p := changed(full(), spoil)
		for version := -1; version < 5; version++ {
			if b, code := binary.Encode(p, version); code == api.OK || b != nil {
				t.Errorf("Encode(%s, %d): got %q, %v", brief(p.Rules), version, b, code)
			}
			if _, code := binary.Downgrade(p, version); code == api.OK {
				t.Errorf("Downgrade(%s, %d): got no error", brief(p.Rules), version)
			}
		}
	}
}
