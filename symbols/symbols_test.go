package symbols_test

import (
	"math"
	"slices"
	"strconv"
	"strings"
	"testing"

	"accesscontrol/api"
	"accesscontrol/symbols"
)

const most = 4096

// keywords are those of the document.
const keywords = "module class type alias typeattribute attribute role types roleallow role_transition user roles level range bool true false sensitivity category allow auditallow dontaudit neverallow type_transition type_change type_member range_transition constrain validatetrans if else optional require sid filecon permissive assert self in"

// improper are names that are no identifiers.
func improper() []string {
	return append(strings.Fields(keywords), "", "1", "1a", "a-b", "a b", " a", "a ", "a\n", "a;", "é", "a\x00", "\"a\"", "*", strings.Repeat("a", api.MaxName+1), strings.Repeat("a", 1<<16))
}

// proper are identifiers, among them words of the grammar that are not reserved.
func proper() []string {
	return []string{"a", "_", "Z9_", "link", "u1", "dom", "any", "noflow", "object_r", "Type", "allow_", strings.Repeat("n", api.MaxName)}
}

func numbered(prefix string, n int) string { return prefix + strconv.Itoa(n) }

// filled returns a table for so many names with the names n0, n1 ...
func filled(t *testing.T, limit, names int) *symbols.Table {
	t.Helper()
	x := symbols.New(limit)
	for i := range names {
		checkAdd(t, x, numbered("n", i), i, api.OK)
	}
	return x
}

func checkAdd(t *testing.T, x *symbols.Table, name string, n int, code api.Errno) {
	t.Helper()
	if m, e := x.Add(name); m != n || e != code {
		t.Errorf("Add(%.40q): got %d, %v, want %d, %v", name, m, e, n, code)
	}
}

func checkAlias(t *testing.T, x *symbols.Table, name string, n int, code api.Errno) {
	t.Helper()
	if e := x.Alias(name, n); e != code {
		t.Errorf("Alias(%.40q, %d): got %v, want %v", name, n, e, code)
	}
}

func checkFind(t *testing.T, x *symbols.Table, name string, n int, ok bool) {
	t.Helper()
	if m, found := x.Find(name); m != n || found != ok {
		t.Errorf("Find(%.40q): got %d, %v, want %d, %v", name, m, found, n, ok)
	}
}

func checkName(t *testing.T, x *symbols.Table, n int, name string, ok bool) {
	t.Helper()
	if s, found := x.Name(n); s != name || found != ok {
		t.Errorf("Name(%d): got %q, %v, want %q, %v", n, s, found, name, ok)
	}
}

// checkTable compares all that a table has with its names and with the numbers of its aliases.
func checkTable(t *testing.T, x *symbols.Table, names []string, aliases map[string]int) {
	t.Helper()
	if x.Len() != len(names) || !slices.Equal(x.Names(), names) {
		t.Errorf("Len %d, Names %v, want %v", x.Len(), x.Names(), names)
	}
	all := slices.Clone(names)
	for i, name := range names {
		checkFind(t, x, name, i, true)
		checkName(t, x, i, name, true)
	}
	for name, n := range aliases {
		checkFind(t, x, name, n, true)
		all = append(all, name)
	}
	slices.Sort(all)
	if got := x.Sorted(); !slices.Equal(got, all) {
		t.Errorf("Sorted: got %v, want %v", got, all)
	}
	for _, n := range []int{-1, math.MinInt, len(names), len(names) + 1, math.MaxInt} {
		checkName(t, x, n, "", false)
	}
	for _, name := range append(improper(), "no_name", "No_Name") {
		checkFind(t, x, name, 0, false)
	}
}

// P4.1: New.
func TestNew(t *testing.T) {
	for _, limit := range []int{-1, -2, -4096, 4097, 5000, 8192, 1 << 32, math.MinInt, math.MaxInt} {
		if symbols.New(limit) != nil {
			t.Errorf("New(%d) is not nil", limit)
		}
	}
	for _, limit := range []int{0, 1, 2, 255, 4095, 4096} {
		x := symbols.New(limit)
		if x == nil {
			t.Fatalf("New(%d) is nil", limit)
		}
		checkTable(t, x, nil, nil)
	}
	a, b := symbols.New(1), symbols.New(1)
	checkAdd(t, a, "x", 0, api.OK)
	checkTable(t, b, nil, nil)
}

// P4.2: a table has room for as many names as its limit says.
func TestLimit(t *testing.T) {
	for _, limit := range []int{0, 1, 2, 3, 100, 4095, 4096} {
		x := filled(t, limit, limit)
		checkAdd(t, x, "another", 0, api.ErrFull)
		if x.Len() != limit {
			t.Errorf("Len: got %d, want %d", x.Len(), limit)
		}
		checkFind(t, x, "another", 0, false)
	}
}

// P4.2: the example of the chapter.
func TestExample(t *testing.T) {
	x := symbols.New(2)
	checkAdd(t, x, "a", 0, api.OK)
	checkAdd(t, x, "b", 1, api.OK)
	checkAdd(t, x, "c", 0, api.ErrFull)
	checkAlias(t, x, "x", 1, api.OK)
	checkFind(t, x, "x", 1, true)
	checkAdd(t, x, "x", 0, api.ErrTwice)
	checkTable(t, x, []string{"a", "b"}, map[string]int{"x": 1})
}

// P4.2: the names that Add and Alias accept.
func TestIdentifiers(t *testing.T) {
	x := symbols.New(most)
	for i, name := range proper() {
		checkAdd(t, x, name, i, api.OK)
	}
	y := filled(t, 3, 3)
	aliases := map[string]int{}
	for i, name := range proper() {
		checkAlias(t, y, name, i%3, api.OK)
		aliases[name] = i % 3
	}
	for _, name := range improper() {
		checkAdd(t, x, name, 0, api.ErrName)
		checkAlias(t, x, name, 0, api.ErrName)
		checkAlias(t, y, name, 2, api.ErrName)
	}
	checkTable(t, y, []string{"n0", "n1", "n2"}, aliases)
	if !slices.Equal(x.Names(), proper()) {
		t.Errorf("Names: got %v, want %v", x.Names(), proper())
	}
}

// P4.2: the errors of Add, in their order, and that nothing changes with one of them.
func TestAddErrors(t *testing.T) {
	x := filled(t, 3, 2)
	checkAlias(t, x, "x", 1, api.OK)
	for range 2 {
		checkAdd(t, x, "", 0, api.ErrName)
		checkAdd(t, x, "self", 0, api.ErrName)
		checkAdd(t, x, "n0", 0, api.ErrTwice)
		checkAdd(t, x, "n1", 0, api.ErrTwice)
		checkAdd(t, x, "x", 0, api.ErrTwice)
	}
	checkTable(t, x, []string{"n0", "n1"}, map[string]int{"x": 1})
	checkAdd(t, x, "c", 2, api.OK)
	for range 2 {
		checkAdd(t, x, "type", 0, api.ErrName)
		checkAdd(t, x, "c", 0, api.ErrTwice)
		checkAdd(t, x, "x", 0, api.ErrTwice)
		checkAdd(t, x, "d", 0, api.ErrFull)
	}
	checkTable(t, x, []string{"n0", "n1", "c"}, map[string]int{"x": 1})
	checkAdd(t, symbols.New(0), "a", 0, api.ErrFull)
	checkAdd(t, symbols.New(0), "in", 0, api.ErrName)
}

// P4.2: the errors of Alias, in their order, and that nothing changes with one of them.
func TestAliasErrors(t *testing.T) {
	x := filled(t, 2, 2)
	checkAlias(t, x, "x", 1, api.OK)
	for range 2 {
		for _, n := range []int{-1, 2, 3, math.MinInt, math.MaxInt} {
			checkAlias(t, x, "1", n, api.ErrName)
			checkAlias(t, x, "if", n, api.ErrName)
			checkAlias(t, x, "y", n, api.ErrRange)
			checkAlias(t, x, "x", n, api.ErrRange)
			checkAlias(t, x, "n0", n, api.ErrRange)
		}
		checkAlias(t, x, "", 0, api.ErrName)
		for _, name := range []string{"n0", "n1", "x"} {
			checkAlias(t, x, name, 0, api.ErrTwice)
			checkAlias(t, x, name, 1, api.ErrTwice)
		}
	}
	checkTable(t, x, []string{"n0", "n1"}, map[string]int{"x": 1})
	checkAlias(t, symbols.New(9), "a", 0, api.ErrRange)
	checkAlias(t, symbols.New(0), "a", 0, api.ErrRange)
}

// P4.2: 4096 aliases, however many names there are.
func TestManyAliases(t *testing.T) {
	for _, names := range []int{1, 7, most} {
		x := filled(t, most, names)
		for i := range most {
			checkAlias(t, x, numbered("a", i), i%names, api.OK)
		}
		for range 2 {
			checkAlias(t, x, "b", 0, api.ErrFull)
			checkAlias(t, x, "a0", 0, api.ErrTwice)
			checkAlias(t, x, "n0", 0, api.ErrTwice)
			checkAlias(t, x, "b", names, api.ErrRange)
			checkAlias(t, x, "a0", -1, api.ErrRange)
			checkAlias(t, x, "role", 0, api.ErrName)
		}
		checkFind(t, x, "b", 0, false)
		checkFind(t, x, "a4095", 4095%names, true)
		if names < most {
			checkAdd(t, x, "b", names, api.OK)
			checkAlias(t, x, "c", names, api.ErrFull)
			continue
		}
		checkAdd(t, x, "b", 0, api.ErrFull)
		if l := x.Sorted(); len(l) != 2*most || !slices.IsSorted(l) {
			t.Errorf("Sorted has %d names, sorted: %v", len(l), slices.IsSorted(l))
		}
	}
}

// P4.3: Find, Name, Len, Names and Sorted; the order is that of the bytes.
func TestQuestions(t *testing.T) {
	x := symbols.New(9)
	names := []string{"b", "a", "_", "B", "a1", "ab", "a_", "Z"}
	for i, name := range names {
		checkAdd(t, x, name, i, api.OK)
	}
	aliases := map[string]int{"aa": 7, "A": 0, "z": 0, "a0": 5}
	for name, n := range aliases {
		checkAlias(t, x, name, n, api.OK)
	}
	if got, want := x.Sorted(), strings.Fields("A B Z _ a a0 a1 a_ aa ab b z"); !slices.Equal(got, want) {
		t.Errorf("Sorted: got %v, want %v", got, want)
	}
	if x.Len() != len(names) || !slices.Equal(x.Names(), names) {
		t.Errorf("Len %d, Names %v", x.Len(), x.Names())
	}
	for i, name := range names {
		checkName(t, x, i, name, true)
		checkFind(t, x, name, i, true)
	}
	for name, n := range aliases {
		checkFind(t, x, name, n, true)
	}
	checkName(t, x, 8, "", false)
	checkName(t, x, -1, "", false)
	checkFind(t, x, "no", 0, false)
	checkFind(t, x, "aliases", 0, false)
}

// P4.3: lists are new memory.
func TestListsAreNew(t *testing.T) {
	x := filled(t, 4, 3)
	checkAlias(t, x, "a", 2, api.OK)
	names, sorted := x.Names(), x.Sorted()
	names[0], sorted[0] = "changed", "changed"
	_ = append(x.Names(), "changed")
	checkTable(t, x, []string{"n0", "n1", "n2"}, map[string]int{"a": 2})
	names = x.Names()
	checkAdd(t, x, "n3", 3, api.OK)
	checkAlias(t, x, "b", 3, api.OK)
	if !slices.Equal(names, []string{"n0", "n1", "n2"}) || !slices.Equal(sorted, []string{"changed", "n0", "n1", "n2"}) {
		t.Errorf("a change of the table changed earlier lists: %v, %v", names, sorted)
	}
}

// P4.4: Copy has the same limit, names and aliases.
func TestCopy(t *testing.T) {
	x := filled(t, 4, 3)
	checkAlias(t, x, "a", 2, api.OK)
	c := x.Copy()
	checkTable(t, c, []string{"n0", "n1", "n2"}, map[string]int{"a": 2})
	checkAdd(t, c, "a", 0, api.ErrTwice)
	checkAdd(t, c, "n3", 3, api.OK)
	checkAdd(t, c, "n4", 0, api.ErrFull)
	checkTable(t, c.Copy(), []string{"n0", "n1", "n2", "n3"}, map[string]int{"a": 2})
	checkTable(t, symbols.New(0).Copy(), nil, nil)
	checkAdd(t, symbols.New(0).Copy(), "a", 0, api.ErrFull)
	full := filled(t, 1, 1)
	for i := range most {
		checkAlias(t, full, numbered("a", i), 0, api.OK)
	}
	checkAlias(t, full.Copy(), "b", 0, api.ErrFull)
}

// P4.4: a table and its copies are independent, in both directions, also where a list has spare capacity.
func TestCopyIsIndependent(t *testing.T) {
	for names := range 9 {
		x := filled(t, 20, names)
		want := x.Names()
		c, d := x.Copy(), x.Copy()
		checkAdd(t, x, "x", names, api.OK)
		checkAdd(t, c, "c", names, api.OK)
		checkAlias(t, x, "c", names, api.OK)
		checkAlias(t, c, "x", names, api.OK)
		checkAlias(t, c, "y", 0, api.OK)
		checkTable(t, x, append(slices.Clone(want), "x"), map[string]int{"c": names})
		checkTable(t, c, append(slices.Clone(want), "c"), map[string]int{"x": names, "y": 0})
		checkTable(t, d, want, nil)
	}
}

// checkUnmade checks that each method of a table that no constructor returned returns ErrNil or zero values.
func checkUnmade(t *testing.T, x *symbols.Table) {
	t.Helper()
	for range 2 {
		checkAdd(t, x, "a", 0, api.ErrNil)
		checkAdd(t, x, "", 0, api.ErrNil)
		checkAdd(t, x, "n0", 0, api.ErrNil)
		checkAlias(t, x, "a", 0, api.ErrNil)
		checkAlias(t, x, "if", 0, api.ErrNil)
		checkAlias(t, x, "a", -1, api.ErrNil)
		checkFind(t, x, "a", 0, false)
		checkFind(t, x, "n1", 0, false)
		checkName(t, x, 0, "", false)
		checkName(t, x, -1, "", false)
		if x.Len() != 0 || len(x.Names()) != 0 || len(x.Sorted()) != 0 || x.Copy() != nil {
			t.Errorf("Len %d, Names %v, Sorted %v, Copy %v", x.Len(), x.Names(), x.Sorted(), x.Copy())
		}
	}
}

// P4.1, P4.2, P4.3, P4.4: a nil table, and one that New did not return.
func TestUnmade(t *testing.T) {
	checkUnmade(t, nil)
	checkUnmade(t, symbols.New(-1))
	checkUnmade(t, &symbols.Table{})
	x := filled(t, 4, 2)
	assigned := *x
	checkUnmade(t, &assigned)
	checkTable(t, x, []string{"n0", "n1"}, nil)
	checkAdd(t, x, "n2", 2, api.OK)
}
