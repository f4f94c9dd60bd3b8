package nameset_test

import (
	"slices"
	"strings"
	"testing"

	"accesscontrol/api"
	"accesscontrol/bitset"
	"accesscontrol/nameset"
)

// P9.1: Type returns the first type that has the name, or has it among its aliases.
func TestType(t *testing.T) {
	for _, x := range []struct {
		types, name string
		number      int
		found       bool
	}{
		{"a=x b c", "a", 0, true}, {"a=x b c", "x", 0, true}, {"a=x b c", "b", 1, true}, {"a=x b c", "c", 2, true}, {"a=x=y b", "y", 0, true},
		{"a=x b c", "d", 0, false}, {"a=x b c", "", 0, false}, {"a=x b c", "A", 0, false}, {"a=x b c", "a=x", 0, false}, {"", "a", 0, false},
		{"a a", "a", 0, true}, {"b a a", "a", 1, true}, {"b a=b b", "b", 0, true}, {"c a=b b", "b", 1, true}, {"c b a=b", "b", 1, true}, {"c a=b d=b", "b", 1, true}, {"a b=a=a", "a", 0, true},
	} {
		if n, ok := nameset.Type(x.name, api.Env{Types: types(x.types)}); n != x.number || ok != x.found {
			t.Errorf("Type(%q) of %q: got %d, %v", x.name, x.types, n, ok)
		}
	}
	e := api.Env{Types: []api.Type{{Name: "a"}, {Aliases: []string{"b"}}}, Attrs: []api.Attr{{Name: "d", Types: bitset.Of(0)}}}
	if n, ok := nameset.Type("", e); n != 1 || !ok {
		t.Errorf("Type of the empty name: got %d, %v", n, ok)
	}
	if n, ok := nameset.Type("d", e); n != 0 || ok {
		t.Errorf("Type of an attribute: got %d, %v", n, ok)
	}
	l, _ := withNames(numbered(300))
	l[299].Aliases = []string{"last"}
	for name, want := range map[string]int{"n255": 255, "n256": 256, "n299": 299, "last": 299} {
		if n, ok := nameset.Type(name, api.Env{Types: l}); n != want || !ok {
			t.Errorf("Type(%q) of 300 types: got %d, %v", name, n, ok)
		}
	}
}

// P9.1: Attribute returns the types of the first attribute with the name, as far as they exist.
func TestAttribute(t *testing.T) {
	e := example()
	e.Attrs = append(e.Attrs, api.Attr{Name: "d", Types: bitset.Of(0)}, api.Attr{Name: "none"}, api.Attr{Name: "wide", Types: bitset.Of(0, 2, 3, 64, 255)}, api.Attr{Name: "a", Types: bitset.Of(1)}, api.Attr{Types: bitset.Of(2)})
	for name, want := range map[string][]int{"d": {1, 2}, "none": nil, "wide": {0, 2}, "a": {1}, "": {2}} {
		if s, ok := nameset.Attribute(name, e); s != bitset.Of(want...) || !ok {
			t.Errorf("Attribute(%q): got %v, %v", name, bitset.List(s), ok)
		}
	}
	for _, name := range []string{"b", "x", "D", "e"} {
		if s, ok := nameset.Attribute(name, e); s != (api.Set{}) || ok {
			t.Errorf("Attribute(%q): got %v, %v", name, bitset.List(s), ok)
		}
	}
	if s, ok := nameset.Attribute("d", api.Env{Attrs: e.Attrs}); s != (api.Set{}) || !ok {
		t.Errorf("Attribute without types: got %v, %v", bitset.List(s), ok)
	}
	l, _ := withNames(numbered(300))
	if s, ok := nameset.Attribute("d", api.Env{Types: l, Attrs: []api.Attr{{Name: "d", Types: bitset.All(256)}}}); s != bitset.All(256) || !ok {
		t.Errorf("Attribute of 300 types: got %v, %v", bitset.List(s), ok)
	}
}

// P9.2: the sets of the examples, and others.
func TestTypes(t *testing.T) {
	for text, want := range map[string][]int{
		"{ a d }": {0, 1, 2}, "{ * - d }": {0}, "~ { d }": {0}, "{ d - c }": {1}, "x": {0}, "{ - a }": nil, "~ { - a }": {0, 1, 2},
		"": nil, "*": {0, 1, 2}, "~": {0, 1, 2}, "~ { * }": nil, "self": nil, "{ a self }": {0}, "~ { a self }": {1, 2}, "{ * self }": {0, 1, 2},
		"{ d - d }": nil, "{ a - x }": nil, "{ x - a b }": {1}, "{ * - b - x }": {2}, "~ { * - d }": {1, 2}, "{ d - b c }": {2}, "{ a a d a }": {0, 1, 2}, "~ { a - a }": {0, 1, 2}, "{ b - c - c }": {1},
	} {
		if s, code := nameset.Types(set(text), example()); s != bitset.Of(want...) || code != api.OK {
			t.Errorf("Types(%q): got %v, %v, want %v", text, bitset.List(s), code, want)
		}
	}
	for _, text := range []string{"e", "{ a e }", "{ - e }", "{ * - e }", "~ e", "~ { * a - d - e }", "{ e - e }", "A"} {
		if s, code := nameset.Types(set(text), example()); s != (api.Set{}) || code != api.ErrNone {
			t.Errorf("Types(%q): got %v, %v", text, bitset.List(s), code)
		}
	}
	for _, n := range []api.NameSet{{Names: []string{""}}, {All: true, Except: []string{""}}} {
		if s, code := nameset.Types(n, example()); s != (api.Set{}) || code != api.ErrNone {
			t.Errorf("Types of an empty name: got %v, %v", bitset.List(s), code)
		}
	}
}

// P9.2: what a name means, if several types and attributes have it.
func TestTypesOfOneName(t *testing.T) {
	e := api.Env{Types: types("a=x b=a c=d"), Attrs: []api.Attr{{Name: "a", Types: bitset.Of(2)}, {Name: "d", Types: bitset.Of(0)}, {Name: "x", Types: bitset.Of(1)}, {Name: "e", Types: bitset.Of(0, 1, 9)}, {Name: "e", Types: bitset.Of(2)}}}
	for name, want := range map[string][]int{"a": {0}, "b": {1}, "d": {2}, "x": {0}, "e": {0, 1}} {
		if s, code := nameset.Types(set(name), e); s != bitset.Of(want...) || code != api.OK {
			t.Errorf("Types(%q): got %v, %v, want %v", name, bitset.List(s), code, want)
		}
	}
}

// P9.2: types from number 256 on are no types; their names may be those of attributes.
func TestManyTypes(t *testing.T) {
	l, _ := withNames(numbered(300))
	l[0].Aliases, l[256].Aliases = []string{"n270"}, []string{"high"}
	e := api.Env{Types: l, Attrs: []api.Attr{{Name: "n299", Types: bitset.Of(3, 255)}, {Name: "n255", Types: bitset.Of(1)}}}
	for text, want := range map[string]api.Set{"n255": bitset.Of(255), "n299": bitset.Of(3, 255), "n270": bitset.Of(0), "*": bitset.All(256), "~": bitset.All(256), "~ n0": bitset.Without(bitset.All(256), 0)} {
		if s, code := nameset.Types(set(text), e); s != want || code != api.OK {
			t.Errorf("Types(%q): got %v, %v", text, bitset.List(s), code)
		}
	}
	for _, name := range []string{"n256", "high", "n298"} {
		if s, code := nameset.Types(set("{ * - "+name+" }"), e); s != (api.Set{}) || code != api.ErrNone {
			t.Errorf("Types without %s: got %v, %v", name, bitset.List(s), code)
		}
	}
}

// P9.2, P9.3: sets over lists of names: the first one with a name counts.
func TestLists(t *testing.T) {
	names := strings.Fields("p q r q p s")
	for _, k := range kinds() {
		for text, want := range map[string][]int{
			"": nil, "p": {0}, "{ s q }": {1, 5}, "*": {0, 1, 2, 3, 4, 5}, "{ * - q }": {0, 2, 3, 4, 5}, "~ p": {1, 2, 3, 4, 5}, "~ { p - p }": {0, 1, 2, 3, 4, 5}, "{ p q - p }": {1}, "{ - q }": nil, "~ { * - p - q }": {0, 1}, "~ *": nil, "{ r self r }": {2},
		} {
			if s, code := k.meaning(set(text), names); s != bitset.Of(want...) || code != api.OK {
				t.Errorf("%s(%q): got %v, %v, want %v", k.name, text, bitset.List(s), code, want)
			}
		}
		for _, text := range []string{"x", "{ p x }", "{ * - x }", "~ { - x }", "{ x - x }", "P", "pq"} {
			if s, code := k.meaning(set(text), names); s != (api.Set{}) || code != k.failure {
				t.Errorf("%s(%q): got %v, %v", k.name, text, bitset.List(s), code)
			}
		}
		if s, code := k.meaning(set("~ *"), nil); s != (api.Set{}) || code != api.OK {
			t.Errorf("%s over nothing: got %v, %v", k.name, bitset.List(s), code)
		}
		if s, code := k.meaning(set("p"), nil); s != (api.Set{}) || code != k.failure {
			t.Errorf("%s of a name over nothing: got %v, %v", k.name, bitset.List(s), code)
		}
		if s, code := k.meaning(api.NameSet{Names: []string{""}}, []string{"p", ""}); s != bitset.Of(1) || code != api.OK {
			t.Errorf("%s of an empty name that is listed: got %v, %v", k.name, bitset.List(s), code)
		}
	}
}

// P9.2, P9.3: symbols that have no number any more.
func TestLongLists(t *testing.T) {
	for _, k := range kinds() {
		for _, count := range []int{k.numbers - 1, k.numbers, k.numbers + 1, k.numbers + 50} {
			l := numbered(count)
			all := bitset.All(min(count, k.numbers))
			for text, want := range map[string]api.Set{"*": all, "~": all, "~ *": {}, "~ n0": bitset.Without(all, 0)} {
				if s, code := k.meaning(set(text), l); s != want || code != api.OK {
					t.Errorf("%s(%q) over %d names: got %v, %v", k.name, text, count, bitset.List(s), code)
				}
			}
			for n, name := range l {
				want, failure := bitset.Of(n), api.OK
				if n >= k.numbers {
					want, failure = api.Set{}, k.failure
				}
				if s, code := k.meaning(set(name), l); s != want || code != failure {
					t.Errorf("%s(%q) over %d names: got %v, %v", k.name, name, count, bitset.List(s), code)
				}
				if _, code := k.meaning(set("{ * - "+name+" }"), l); code != failure {
					t.Errorf("%s without %q over %d names: got %v", k.name, name, count, code)
				}
			}
			if s, code := k.meaning(set("n3"), append(l, "n3")); s != bitset.Of(3) || code != api.OK {
				t.Errorf("%s of a name that is repeated: got %v, %v", k.name, bitset.List(s), code)
			}
		}
	}
}

// P9.4: Names and Vector.
func TestWriting(t *testing.T) {
	l := types("a=x b c a")
	for _, x := range []struct{ s, want string }{{"", ""}, {"0 2", "a c"}, {"2 1 0 3", "a b c a"}, {"3", "a"}, {"1 4 64 255", "b"}, {"7", ""}} {
		var s api.Set
		for _, word := range strings.Fields(x.s) {
			s = bitset.With(s, slices.Index(numbered(256), "n"+word))
		}
		n := nameset.Names(s, l)
		if !slices.Equal(n.Names, strings.Fields(x.want)) || n.All || n.Not || n.Self || len(n.Except) != 0 {
			t.Errorf("Names of %s: got %v", x.s, n)
		}
	}
	if n := nameset.Names(bitset.All(256), nil); len(n.Names) != 0 {
		t.Errorf("Names without types: got %v", n)
	}
	many, _ := withNames(numbered(300))
	if n := nameset.Names(bitset.All(256), many); !slices.Equal(n.Names, numbered(256)) {
		t.Errorf("Names of 300 types: got %v", n)
	}
	c := api.Class{Name: "c", Perms: strings.Fields("read write read")}
	for v, want := range map[uint32]string{0: "", 1: "read", 2: "write", 4: "read", 5: "read read", 6: "write read", 7: "read write read", 8: "", 1<<32 - 1: "read write read", 1<<31 | 2: "write"} {
		if got := nameset.Vector(v, c); !slices.Equal(got, strings.Fields(want)) {
			t.Errorf("Vector(%d): got %v", v, got)
		}
	}
	if got := nameset.Vector(6, api.Class{Perms: strings.Fields("read write")}); !slices.Equal(got, []string{"write"}) {
		t.Errorf("Vector of 6: got %v", got)
	}
	for count := 30; count < 70; count++ {
		c := api.Class{Perms: numbered(count)}
		if got := nameset.Vector(1<<32-1, c); !slices.Equal(got, numbered(min(count, 32))) {
			t.Errorf("Vector of all bits with %d permissions: got %v", count, got)
		}
	}
	if got := nameset.Vector(1, api.Class{}); len(got) != 0 {
		t.Errorf("Vector without permissions: got %v", got)
	}
}
