package optional_test

import (
	"fmt"
	"slices"
	"strings"
	"testing"

	"accesscontrol/api"
	"accesscontrol/optional"
)

// P12.1: blocks are numbered in the order of the source, and what stands in other statements is not searched.
func TestBlocks(t *testing.T) {
	for src, want := range map[string]int{
		"":                                  0,
		"type a; if v { allow a a : c p; }": 0,
		"optional { type a; }":              1,
		"optional { type a; } else { type b; } optional { type a; }":                           2,
		"optional { optional { type a; } optional { type b; } } else { optional { type c; } }": 4,
		"optional { type a; } else { optional { type c; } else { optional { type d; } } }":     3,
		"if v { optional { type a; } } else { optional { type a; } }":                          0,
		"optional { if v { optional { type a; } } }":                                           1,
	} {
		m := modules(t, src)[0]
		if got := optional.Blocks(m); got != want {
			t.Errorf("Blocks(%q): got %d, want %d", src, got, want)
		}
	}
	a := api.Stmt{Kind: api.StmtOptional}
	odd := api.Module{Version: -1, Stmts: []api.Stmt{a, {Kind: api.StmtRule, Then: []api.Stmt{a}, Else: []api.Stmt{a}}, {Kind: -1, Then: []api.Stmt{a}}, {Kind: api.StmtOptional, Else: []api.Stmt{a}}}}
	if got := optional.Blocks(odd); got != 3 {
		t.Errorf("Blocks of odd statements: got %d", got)
	}
}

// P12.1: which blocks are enabled.
func TestEnabled(t *testing.T) {
	for _, x := range []struct {
		want    string
		sources []string
	}{
		{"", nil},
		{"", []string{""}},
		{" ", []string{"type a;", "type b;"}},
		{"+", []string{"optional { type a; }"}},
		{"-", []string{"optional { require type a; }"}},
		{"+", []string{"type a; optional { require type a; }"}},
		{"+", []string{"optional { require type a; } type a;"}},
		{" +", []string{"type a;", "optional { require type a; }"}},
		{"+ ", []string{"optional { require type a; }", "type b alias { a };"}},
		{"- ", []string{"optional { require type a; }", "require type a;"}},
		{"- ", []string{"optional { require type a; }", "attribute a;"}},
		{"- ", []string{"optional { require type a; }", "if v { type a; }"}},
		{"+", []string{"optional { require role object_r; }"}},
		{"-", []string{"optional { require role r; }"}},
		{"+", []string{"optional { require type a; type a; }"}}, // what a part declares it does not require
		// All of what is required must be there.
		{"- ", []string{"optional { require type a, b; }", "type a;"}},
		{"- ", []string{"optional { require type a; require role a; }", "type a;"}},
		{"+ ", []string{"optional { require type a; require role a; }", "type a; role a;"}},
		{"+ ", []string{"optional { require class c { p q }; }", "class c { q p };"}},
		{"- ", []string{"optional { require class c { p q }; }", "class c { p };"}},
		{"-  ", []string{"optional { require class c { p q }; }", "class d { p q };", "require class c { p q };"}},
		{"+  ", []string{"optional { require class c { p q }; }", "class c { p };", "class c { q };"}}, // those of all declarations together
		{"+-+", []string{"class c { p }; optional { class c { q }; } optional { require class c { r }; } optional { require class c { q p }; }"}},
		{"--", []string{"optional { require type a; class c { p q }; } optional { require class c { p }; require class c { q }; }"}},
		// Only enabled parts count.
		{"++", []string{"optional { type a; } optional { require type a; }"}},
		{"+-", []string{"optional { type b; } else { type a; } optional { require type a; }"}},
		{"--", []string{"optional { require type b; } else { type a; } optional { require type c; type a; }"}},
		// A mark that is false once stays so, also where the requirement is met later.
		{"--", []string{"optional { require type b; } else { type a; } optional { require type a; }"}},
		{"--", []string{"optional { require type a; } optional { require type b; } else { type a; }"}},
		{"-+", []string{"optional { require type a; } else { optional { type b; } }"}},
		{"--", []string{"optional { require type a; } else { optional { require type b; } }"}},
		{"-+", []string{"optional { require type a; } else { optional { require type a; } type a; }"}},
		// Blocks in parts that are not enabled are not, whatever they require.
		{"--", []string{"optional { require type a; optional { type b; } }"}},
		{"+-", []string{"optional { type a; } else { optional { type b; } }"}},
		{"+++", []string{"optional { optional { type a; optional { require type a; } } }"}},
		{"++", []string{"optional { optional { type a; } require type a; }"}}, // a block can declare what the block around it requires
		{"--", []string{"optional { optional { require type b; type a; } require type a; }"}},
		// Blocks that support each other.
		{"+ +", []string{"optional { require type a; type b; }", "optional { require type b; type a; }"}},
		{"- -", []string{"optional { require type a, c; type b; }", "optional { require type b; type a; }"}},
		{"+- -", []string{"optional { type z; } optional { require type a; type b; }", "optional { require type b, y; type a; }"}},
		// The marks of a round become false at once: that of the second block too, although Else of the first one has what it requires.
		{"-- ", []string{"optional { require type a; } else { type b; } optional { require type b; } else { type a; }", "type c;"}},
		// Two rounds later the requirement of the third block would be met.
		{"---", []string{"optional { require type z; type a; } optional { require type a; } else { type b; } optional { require type b; }"}},
		{"-+", []string{"optional { require type z; type a; } else { type a; } optional { require type a; }"}}, // it is there all the time
		{"--+", []string{"optional { require type z; type a; optional { type b; } } else { optional { type b; } } type c;"}},
		{"-- ", []string{"optional { require type z; type a; } optional { require type a; type c; }", "require type c;"}},
	} {
		checkEnabled(t, modules(t, x.sources...), x.want)
	}
}

// P12.1: a chain in which each block requires what the next one declares, up to one whose requirement is missing.
func TestManyRounds(t *testing.T) {
	const count, perModule = 16 * 340, 340
	var sources []string
	for i := range count {
		if i%perModule == 0 {
			sources = append(sources, "")
		}
		sources[len(sources)-1] += fmt.Sprintf("optional { require type a%d; type a%d; }\n", i+1, i)
	}
	want := strings.TrimSuffix(strings.Repeat(strings.Repeat("-", perModule)+" ", count/perModule), " ")
	checkEnabled(t, modules(t, sources...), want)
	sources[7] += fmt.Sprintf("type a%d;", count)
	checkEnabled(t, modules(t, sources...), strings.ReplaceAll(want, "-", "+"))
}

// P12.1: the same class in many blocks, which lose their marks one after the other.
func TestManyDeclarations(t *testing.T) {
	var b strings.Builder
	for i := range 100 {
		fmt.Fprintf(&b, "optional { require type a%d; require class c { p }; type a%d; class c { p }; }\n", i+1, i)
		fmt.Fprintf(&b, "optional { require class c { p }; }\n")
	}
	checkEnabled(t, modules(t, b.String()+"type a100;"), strings.Repeat("+", 200))
	checkEnabled(t, modules(t, b.String()), strings.Repeat("-", 200))
}

// P12.1: the fault of modules is the first one of scope, also of parts that are not enabled.
func TestFaults(t *testing.T) {
	for _, x := range []struct {
		want    api.Fault
		sources []string
	}{
		{fault(api.ErrTwice, 2, 1, "a"), []string{"type a;\ntype a;"}},
		{fault(api.ErrKind, 2, 1, "a"), []string{"type b;", "type a;\nattribute a;"}},
		{fault(api.ErrTwice, 1, 20, "a"), []string{"optional { type a; type a; }"}},
		{fault(api.ErrTwice, 1, 37, "a"), []string{"optional { type b; } else { type a; type a; }"}},
		{fault(api.ErrTwice, 3, 1, "b"), []string{"optional { type a; type a; }\ntype b;\ntype b;"}},
		{fault(api.ErrTwice, 2, 1, "a"), []string{"optional {\ntype a alias { a };\n}", "type b;\ntype b;"}},
		{fault(api.ErrTwice, 3, 1, "a"), []string{"optional { optional { type c; type c; }\ntype a;\ntype a;\n}"}},
		{fault(api.ErrTwice, 2, 1, "c"), []string{"optional { optional { type c;\ntype c; } } else { type a; type a; }"}},
		{fault(api.ErrTwice, 2, 1, "d"), []string{"optional { optional { type c; } else { type d;\ntype d; } } else { type a; type a; }"}},
		{fault(api.ErrTwice, 2, 1, "a"), []string{"optional { optional { type c; } } else { type a;\ntype a; optional { type c; type c; } } optional { type c; type c; }"}},
		{fault(api.ErrTwice, 2, 1, "e"), []string{"optional { type c; } else { optional { type c; } else { type e;\ntype e; } } optional { type c; type c; }"}},
		{fault(api.ErrTwice, 2, 1, "object_r"), []string{"", "optional { require type z;\nrole object_r; }"}},
	} {
		checkFault(t, modules(t, x.sources...), x.want)
	}
	for _, src := range []string{"type a; optional { type a; }", "type a; optional { attribute a; }", "if v { type a; optional { type b; type b; } type a; }", "optional { if v { type a; type a; } permissive z; } permissive z;", "optional { type a; } optional { type a; }"} {
		if _, f := optional.Enabled(modules(t, src, src)); f != (api.Fault{}) {
			t.Errorf("Enabled(%q): got %v", src, f)
		}
	}
}

// divided returns a source without the marks < and >, and with blanks in place of what stands between them.
func divided(marked string) (src, rest string) {
	for _, text := range strings.Split(strings.NewReplacer("<", "|<", ">", "|").Replace(marked), "|") {
		text, removed := strings.CutPrefix(text, "<")
		src += text
		if removed {
			text = strings.Repeat(" ", len(text))
		}
		rest += text
	}
	return src, rest
}

// P12.2: the statements of the enabled parts stand in place of the blocks.
func TestFlatten(t *testing.T) {
	for _, marked := range []string{
		"",
		"type a; permissive a;",
		"type a; <optional {> require type a; permissive a; <}> type b;",
		"<optional { require type z; permissive z; }> type b;",
		"<optional { require type z; } else {> attribute x; <}> type b;",
		"<optional {> type a; <} else { type b; }>",
		"<optional { optional {> type a; <}> type b; <optional { require type z; } else {> type c; <} }>",
		"<optional { require type z; optional { type a; } } else { optional {> type b; <} else { optional { type d; } } optional { require type z; optional { type b; } }> type c; <}>",
		"if v { optional { type a; } allow a a : c p; } <optional {> if v { optional { type b; } } <}>",
		"<optional { require type z; optional { require type z; } else { type y; } } else { optional {> require type q; <optional { require type z; } else {> type b; <} } else { type x; } }> type c;",
	} {
		src, want := divided(marked)
		checkFlat(t, modules(t, "type q;", src), modules(t, "type q;", want))
	}
	checkFlat(t, nil, nil)
	odd := []api.Module{{Name: "type", Version: -7, Stmts: []api.Stmt{{Kind: -1, Name: "x", Then: []api.Stmt{{Kind: api.StmtOptional}}}, {}, {Kind: api.StmtOptional, Name: "y", Else: []api.Stmt{{}}}}}}
	checkFlat(t, odd, []api.Module{{Name: "type", Version: -7, Stmts: odd[0].Stmts[:2]}})
}

// P12.1, P12.2: blocks with many levels.
func TestDeepBlocks(t *testing.T) {
	const levels = 60000
	s := api.Stmt{Kind: api.StmtType, Name: "a"}
	inner := s
	for i := range levels {
		s = api.Stmt{Kind: api.StmtOptional, Then: []api.Stmt{s}}
		inner = api.Stmt{Kind: api.StmtIf, Then: []api.Stmt{inner}}
		if i%2 == 0 {
			need := api.Stmt{Kind: api.StmtRequire, Op: api.SymType, List: []string{"z"}}
			s.Then, s.Else = []api.Stmt{need}, s.Then
		}
	}
	l := []api.Module{{Stmts: []api.Stmt{s}}, {Stmts: []api.Stmt{inner}}}
	enabled, f := optional.Enabled(l)
	flat, g := optional.Flatten(l)
	if f != (api.Fault{}) || g != f || len(enabled[0]) != levels || marks(enabled) != strings.Repeat("+-", levels/2)+" " || len(flat) != 2 || len(flat[0].Stmts) != 1 || flat[0].Stmts[0].Name != "a" || len(flat[1].Stmts) != 1 {
		t.Errorf("blocks with many levels: got %v, %v, %v", brief(marks(enabled)), f, g)
	}
	if n := optional.Blocks(l[0]); n != levels {
		t.Errorf("Blocks: got %d", n)
	}
}

// P12.3: what modules need of each other.
func TestNeeds(t *testing.T) {
	for _, x := range []struct {
		want    []int
		sources []string // those of the module 1 are asked for
	}{
		{nil, []string{"", ""}},
		{[]int{0}, []string{"type a;", "require type a;"}},
		{[]int{0, 2, 4}, []string{"type a;", "require type c, b, a;", "type b; type c;", "type d;", "type x alias { a };"}},
		{nil, []string{"require type a;", "require type a;"}},
		{nil, []string{"attribute a;", "require type a;", "role a;"}},
		{[]int{2}, []string{"role b;", "require role a; require type b;", "role a;"}},
		{[]int{0}, []string{"class c { p };", "require class c { q };"}}, // whatever permissions it has
		{nil, []string{"type a;", "type a; require type a;"}},            // what a module declares it does not require
		{nil, []string{"role r;", "require role object_r;"}},
		{nil, []string{"type a;", "optional { require type a; }"}},
		{nil, []string{"optional { type a; }", "require type a;"}},
		{nil, []string{"if v { type a; }", "require type a;"}},
		{nil, []string{"type a; type a;", "require type a;"}}, // a module with a fault has no symbols
		{nil, []string{"type a;", "require type a; type b; type b;"}},
		{[]int{0}, []string{"type a; optional { type b; type b; }", "require type a; optional { type b; type b; }"}},
	} {
		l := modules(t, x.sources...)
		if got := optional.Needs(l, 1); !slices.Equal(got, x.want) {
			t.Errorf("Needs(%q, 1): got %v, want %v", x.sources, got, x.want)
		}
		for _, i := range []int{-1, len(l), len(l) + 5, -1 << 63, 1<<63 - 1} {
			if got := optional.Needs(l, i); len(got) != 0 {
				t.Errorf("Needs(%q, %d): got %v", x.sources, i, got)
			}
		}
	}
	if got := optional.Needs(nil, 0); len(got) != 0 {
		t.Errorf("Needs of no modules: got %v", got)
	}
}

// P12.3: the order of modules, or a cycle.
func TestOrder(t *testing.T) {
	for _, x := range []struct {
		want    []int
		code    api.Errno
		sources []string
	}{
		{nil, api.OK, nil},
		{[]int{0}, api.OK, []string{"require type a;"}},
		{[]int{0, 1, 2}, api.OK, []string{"", "", ""}},
		{[]int{0, 1, 2}, api.OK, []string{"type a;", "require type a; type b;", "require type b, a;"}},
		{[]int{1, 0}, api.OK, []string{"require type a;", "type a;"}},
		{[]int{2, 1, 0}, api.OK, []string{"require type a;", "type a; require type b;", "type b;"}},
		{[]int{1, 2, 0, 3}, api.OK, []string{"require type a;", "", "type a;", ""}},
		{[]int{1, 3, 0, 2}, api.OK, []string{"require type a; type b;", "", "require type b;", "type a;"}}, // 0 is less than 2
		{[]int{0, 1}, api.OK, []string{"require type a, b;", "require type b;"}},
		{[]int{0, 1}, api.OK, []string{"type a; require type a;", "type b; require type b;"}},
		{[]int{1, 2, 0}, api.OK, []string{"require type a;", "type a;", "type a;"}},
		{[]int{0, 1}, api.OK, []string{"require type a; type b; type b;", "type a; require type b;"}},
		{[]int{0, 1}, api.ErrCycle, []string{"require type a; type b;", "type a; require type b;"}},
		{[]int{1, 2}, api.ErrCycle, []string{"require type a;", "type a; require type b;", "require type a; type b;"}},
		{[]int{2, 1}, api.ErrCycle, []string{"require type b;", "type a; require type b;", "require type a; type b;"}},
		{[]int{1, 3, 2}, api.ErrCycle, []string{"type z;", "type a; require type c, z;", "type b; require type a;", "type c; require type b;"}},
		{[]int{0, 1}, api.ErrCycle, []string{"type a; require type b;", "type b; require type a, c;", "type c; require type b;"}}, // the least of its Needs follows
		{[]int{3, 4}, api.ErrCycle, []string{"require type q;", "type z;", "require type z;", "type q; require type r;", "type r; require type q;"}},
		{[]int{0, 1, 2}, api.ErrCycle, []string{"require type b, c; type d;", "type b; require type c;", "type c; require type b, d;"}},
	} {
		l := modules(t, x.sources...)
		if got, code := optional.Order(l); !slices.Equal(got, x.want) || code != x.code {
			t.Errorf("Order(%q): got %v, %v, want %v, %v", x.sources, got, code, x.want, x.code)
		}
	}
}

// P12.3: more modules than can be linked.
func TestOrderOfManyModules(t *testing.T) {
	var sources []string
	var want []int
	for i := range 300 {
		sources = append(sources, fmt.Sprintf("type a%d; require type a%d;", i, i+1))
		want = append([]int{i}, want...)
	}
	if got, code := optional.Order(modules(t, sources...)); !slices.Equal(got, want) || code != api.OK {
		t.Errorf("Order of many modules: got %v, %v", got, code)
	}
	sources[299] = "type a299; require type a100;"
	if got, code := optional.Order(modules(t, sources...)); len(got) != 200 || got[0] != 100 || code != api.ErrCycle {
		t.Errorf("Order of many modules: got %v, %v", got, code)
	}
}

// The examples of the chapter.
func TestExamples(t *testing.T) {
	const b = "optional { require type t; allow t t : file read; } else { attribute x; }"
	checkEnabled(t, modules(t, "type t;", b), " +")
	checkFlat(t, modules(t, "type t;", b), modules(t, "type t;", "           require type t; allow t t : file read;"))
	checkEnabled(t, modules(t, b), "-")
	checkFlat(t, modules(t, b), modules(t, strings.Repeat(" ", strings.Index(b, "attribute"))+"attribute x;"))
	checkEnabled(t, modules(t, "optional { require type t; type u; }", "optional { require type u; type t; }"), "+ +")
	if l, code := optional.Order(modules(t, "require type a;", "type a;")); !slices.Equal(l, []int{1, 0}) || code != api.OK {
		t.Errorf("Order: got %v, %v", l, code)
	}
	if l, code := optional.Order(modules(t, "require type a; type b;", "type a; require type b;")); !slices.Equal(l, []int{0, 1}) || code != api.ErrCycle {
		t.Errorf("Order: got %v, %v", l, code)
	}
}
