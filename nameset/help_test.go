package nameset_test

import (
	"slices"
	"strconv"
	"strings"

	"accesscontrol/api"
	"accesscontrol/bitset"
	"accesscontrol/nameset"
)

// set returns the set of names that is written as in a source, with spaces around all marks; it may be empty.
func set(text string) api.NameSet {
	var n api.NameSet
	minus := false
	for _, word := range strings.Fields(text) {
		switch {
		case word == "*":
			n.All = true
		case word == "~":
			n.Not = true
		case word == "self":
			n.Self = true
		case minus:
			n.Except = append(n.Except, word)
		case word != "-" && word != "{" && word != "}":
			n.Names = append(n.Names, word)
		}
		minus = word == "-"
	}
	return n
}

// example is the environment of the chapter's examples.
func example() api.Env {
	return api.Env{Types: types("a=x b c"), Attrs: []api.Attr{{Name: "d", Types: bitset.Of(1, 2)}}}
}

// types returns types that are written as names, each with its aliases behind equals signs.
func types(text string) []api.Type {
	var l []api.Type
	for _, word := range strings.Fields(text) {
		names := strings.Split(word, "=")
		l = append(l, api.Type{Name: names[0], Aliases: names[1:]})
	}
	return l
}

// numbered returns so many names: n0, n1 and so on.
func numbered(count int) []string {
	var l []string
	for i := range count {
		l = append(l, "n"+strconv.Itoa(i))
	}
	return l
}

// withNames returns types with names, and likewise classes.
func withNames(names []string) ([]api.Type, []api.Class) {
	var l []api.Type
	var c []api.Class
	for _, name := range names {
		l, c = append(l, api.Type{Name: name}), append(c, api.Class{Name: name})
	}
	return l, c
}

// picker returns a function that picks numbers below its argument, by a rule that the seed begins.
func picker(seed int) func(int) int {
	state := uint32(seed)
	return func(n int) int {
		state = state*1664525 + 1013904223
		return int(state>>16) % n
	}
}

// randomSet returns a set of names from a list, and now and then another one.
func randomSet(pick func(int) int, names []string) api.NameSet {
	n := api.NameSet{All: pick(3) == 0, Not: pick(2) == 0, Self: pick(2) == 0}
	for _, l := range []*[]string{&n.Names, &n.Except} {
		for range pick(5) {
			if name := names[pick(len(names))]; pick(40) != 0 {
				*l = append(*l, name)
			} else {
				*l = append(*l, "?")
			}
		}
	}
	return n
}

// over says which numbers below count a set means, number by number; means tells of a name and a number. It is false if a name is not known.
func over(n api.NameSet, count int, known func(string) bool, means func(string, int) bool) (api.Set, bool) {
	var s api.Set
	for _, name := range slices.Concat(n.Names, n.Except) {
		if !known(name) {
			return api.Set{}, false
		}
	}
	for k := range min(count, 256) {
		has := func(name string) bool { return means(name, k) }
		in := (n.All || slices.ContainsFunc(n.Names, has)) && !slices.ContainsFunc(n.Except, has)
		if in != n.Not {
			s = bitset.With(s, k)
		}
	}
	return s, true
}

// kind is one of the functions that tell what a set of names means, over a list of names, with its error.
type kind struct {
	name    string
	numbers int // of symbols that have one
	failure api.Errno
	meaning func(api.NameSet, []string) (api.Set, api.Errno)
}

// kinds are all of them. For Types, the names are types.
func kinds() []kind {
	return []kind{
		{"Types", 256, api.ErrNone, func(n api.NameSet, l []string) (api.Set, api.Errno) {
			types, _ := withNames(l)
			return nameset.Types(n, api.Env{Types: types})
		}},
		{"Perms", 32, api.ErrPerm, func(n api.NameSet, l []string) (api.Set, api.Errno) {
			v, code := nameset.Perms(n, api.Class{Name: "c", Perms: l})
			return api.Set{uint64(v)}, code
		}},
		{"Classes", 256, api.ErrClass, func(n api.NameSet, l []string) (api.Set, api.Errno) {
			_, classes := withNames(l)
			return nameset.Classes(n, classes)
		}},
		{"Listed", 256, api.ErrNone, nameset.Listed},
	}
}
