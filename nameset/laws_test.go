package nameset_test

import (
	"reflect"
	"slices"
	"strings"
	"testing"

	"accesscontrol/api"
	"accesscontrol/bitset"
	"accesscontrol/nameset"
)

// P9.2, P9.5: the meaning of sets of types, number by number.
func TestMeaningOfTypes(t *testing.T) {
	for seed := range 5000 {
		pick := picker(seed)
		e := api.Env{Types: types("a=x b=y=z c d=b e f g a=q x y")}
		e.Attrs = []api.Attr{{Name: "k", Types: bitset.Of(pick(12), pick(12), pick(12))}, {Name: "a", Types: bitset.All(12)}, {Name: "k"}, {Name: "m"}}
		n := randomSet(pick, strings.Fields("a b c d e f g q x y z k m"))
		means := func(name string, k int) bool {
			if number, ok := nameset.Type(name, e); ok {
				return number == k
			}
			s, _ := nameset.Attribute(name, e)
			return bitset.Has(s, k)
		}
		want, ok := over(n, len(e.Types), func(name string) bool { return name != "?" }, means)
		if s, code := nameset.Types(n, e); s != want || (code == api.OK) != ok {
			t.Fatalf("Types(%v): got %v, %v, want %v, %v", n, bitset.List(s), code, bitset.List(want), ok)
		}
	}
}

// P9.3, P9.5: the meaning of other sets, number by number.
func TestMeaningOfLists(t *testing.T) {
	for _, k := range kinds() {
		for seed := range 2000 {
			pick := picker(seed)
			l := numbered(1 + pick(40))
			for range pick(5) {
				l[pick(len(l))] = l[pick(len(l))]
			}
			n := randomSet(pick, l)
			number := func(name string) int { return slices.Index(l, name) }
			known := func(name string) bool { return number(name) >= 0 && number(name) < k.numbers }
			want, ok := over(n, min(len(l), k.numbers), known, func(name string, n int) bool { return number(name) == n })
			if s, code := k.meaning(n, l); s != want || (code == api.OK) != ok || !ok && code != k.failure {
				t.Fatalf("%s(%v) over %v: got %v, %v, want %v, %v", k.name, n, l, bitset.List(s), code, bitset.List(want), ok)
			}
		}
	}
}

// P9.5: with Not inverted the meaning is the complement; order, repetitions and Self do not matter; what both have is not in the meaning without Not.
func TestAlgebra(t *testing.T) {
	l := numbered(20)
	for _, k := range kinds() {
		for seed := range 500 {
			pick := picker(seed)
			n := randomSet(pick, l)
			s, code := k.meaning(n, l)
			other := n
			other.Not, other.Self = !n.Not, !n.Self
			complement, same := k.meaning(other, l)
			if same != code || code == api.OK && complement != bitset.Minus(bitset.All(len(l)), s) {
				t.Errorf("%s(%v): %v, %v; with Not inverted %v, %v", k.name, n, bitset.List(s), code, bitset.List(complement), same)
			}
			other = n
			other.Names, other.Except = slices.Concat(n.Names, n.Names), slices.Clone(n.Except)
			slices.Reverse(other.Names)
			slices.Sort(other.Except)
			if again, same := k.meaning(other, l); again != s || same != code {
				t.Errorf("%s(%v): %v, %v; %v: %v, %v", k.name, n, bitset.List(s), code, other, bitset.List(again), same)
			}
			for i, name := range l {
				if both := slices.Contains(n.Names, name) && slices.Contains(n.Except, name); both && code == api.OK && bitset.Has(s, i) != n.Not {
					t.Errorf("%s(%v): got %v", k.name, n, bitset.List(s))
				}
			}
		}
	}
}

// P9.4: Types of Names of a set is the set, likewise Perms of the names of Vector.
func TestBack(t *testing.T) {
	l, _ := withNames(numbered(256))
	for n := range l[:200] {
		l[n].Aliases = []string{"x", l[n].Name, l[max(n, 1)-1].Name} // of another type before it, and none of a later one
	}
	c := api.Class{Perms: numbered(32)}
	for seed := range 200 {
		pick := picker(seed)
		s := api.Set{}
		for range pick(256) {
			s = bitset.With(s, pick(256))
		}
		if got, code := nameset.Types(nameset.Names(s, l), api.Env{Types: l}); got != s || code != api.OK {
			t.Errorf("Types of Names of %v: got %v, %v", bitset.List(s), bitset.List(got), code)
		}
		v := uint32(pick(1<<16))<<16 | uint32(pick(1<<16))
		if got, code := nameset.Perms(api.NameSet{Names: nameset.Vector(v, c)}, c); got != v || code != api.OK {
			t.Errorf("Perms of Vector(%d): got %d, %v", v, got, code)
		}
	}
}

// No function writes to its arguments, and no result shares memory with one.
func TestMemory(t *testing.T) {
	e, c := example(), api.Class{Name: "c", Perms: numbered(3)}
	n := set("~ { * a d - d - x self }")
	old := []any{example(), api.Class{Name: "c", Perms: numbered(3)}, set("~ { * a d - d - x self }")}
	nameset.Types(n, e)
	nameset.Listed(n, c.Perms)
	nameset.Classes(n, []api.Class{c})
	nameset.Perms(n, c)
	names, vector := nameset.Names(bitset.All(3), e.Types), nameset.Vector(7, c)
	names.Names[0], vector[0] = "?", "?"
	if now := []any{e, c, n}; !reflect.DeepEqual(now, old) {
		t.Errorf("arguments are changed: %v", now)
	}
}
