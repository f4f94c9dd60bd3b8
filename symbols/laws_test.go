package symbols_test

import (
	"slices"
	"testing"

	"accesscontrol/api"
	"accesscontrol/symbols"
)

// model is a table by the definition: the names, and the aliases with their numbers.
type model struct {
	limit   int
	names   []string
	aliases map[string]int
}

func (m *model) has(name string) bool {
	_, alias := m.aliases[name]
	return alias || slices.Contains(m.names, name)
}

func (m *model) add(name string) (int, api.Errno) {
	switch {
	case slices.Contains(improper(), name):
		return 0, api.ErrName
	case m.has(name):
		return 0, api.ErrTwice
	case len(m.names) == m.limit:
		return 0, api.ErrFull
	}
	m.names = append(m.names, name)
	return len(m.names) - 1, api.OK
}

func (m *model) alias(name string, n int) api.Errno {
	switch {
	case slices.Contains(improper(), name):
		return api.ErrName
	case n < 0 || n >= len(m.names):
		return api.ErrRange
	case m.has(name):
		return api.ErrTwice
	}
	m.aliases[name] = n
	return api.OK
}

// picker returns a function that picks numbers below its argument, by a rule that the seed begins.
func picker(seed int) func(int) int {
	state := uint32(seed)
	return func(n int) int {
		state = state*1664525 + 1013904223
		return int(state>>16) % n
	}
}

// P4.5: the consequences, after each of many calls in an order that follows a rule; the table agrees with the model.
func TestConsequences(t *testing.T) {
	words := append(proper(), "", "type", "1", "b", "c", "x_1", "x_2", "A", "B", "zz")
	for limit := range 8 {
		x := symbols.New(limit)
		m := &model{limit: limit, aliases: map[string]int{}}
		pick := picker(limit)
		for step := range 400 {
			name := words[pick(len(words))]
			if pick(2) == 0 {
				n, code := m.add(name)
				checkAdd(t, x, name, n, code)
			} else {
				n := pick(limit+3) - 1
				checkAlias(t, x, name, n, m.alias(name, n))
			}
			checkLaws(t, x, len(m.aliases))
			if step%50 == 0 {
				x = x.Copy()
			}
		}
		checkTable(t, x, m.names, m.aliases)
	}
}

// checkLaws checks that each number is found by its name, and that Sorted has each name once.
func checkLaws(t *testing.T, x *symbols.Table, aliases int) {
	t.Helper()
	for n := range x.Len() {
		name, ok := x.Name(n)
		if m, found := x.Find(name); m != n || !ok || !found {
			t.Errorf("Find(Name(%d)): got %d, %v, %v", n, m, ok, found)
		}
	}
	l := x.Sorted()
	if !slices.IsSorted(l) || len(slices.Compact(slices.Clone(l))) != len(l) || len(l) != len(x.Names())+aliases {
		t.Errorf("Sorted: got %v with %d names and %d aliases", l, len(x.Names()), aliases)
	}
}
