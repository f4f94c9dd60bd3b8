package conflict_test

import (
	"slices"
	"strconv"
	"strings"
	"testing"

	"accesscontrol/api"
	"accesscontrol/conflict"
	"accesscontrol/printer"
	"accesscontrol/scope"
)

// P14.1: the example of the chapter, and what else two modules may have in common.
func TestModules(t *testing.T) {
	for _, x := range []struct {
		a, b string
		want []api.Conflict
	}{
		{"type t;", "attribute t;", []api.Conflict{found(api.ErrKind, 1, 1, "t")}},
		{"type t;", "type t;", []api.Conflict{found(api.ErrTwice, 1, 1, "t")}},
		{"type t;", "require type t;", nil},
		{"require type t;", "type t;", nil},
		{"require type t;", "require type t;", nil},
		{"require type t;", "attribute t;", []api.Conflict{found(api.ErrKind, 1, 1, "t")}},
		{"attribute t;", "require type t;", []api.Conflict{found(api.ErrKind, 1, 1, "t")}},
		{"require type t;", "  require attribute s, t;", []api.Conflict{found(api.ErrKind, 1, 3, "t")}},
		{"type s alias { t };", "type t;", []api.Conflict{found(api.ErrTwice, 1, 1, "t")}},
		{"type s alias { t };", "type u alias { t };", []api.Conflict{found(api.ErrTwice, 1, 1, "t")}},
		{"type s alias { t };", "require type t;", nil},
		{"type s alias { t };", "require attribute t;", []api.Conflict{found(api.ErrKind, 1, 1, "t")}},
		{"class k { r };", "class k { r };", []api.Conflict{found(api.ErrTwice, 1, 1, "k")}},
		{"class k { r };", "class k { w };", []api.Conflict{found(api.ErrTwice, 1, 1, "k")}},
		{"class k { r };", "require class k { r };", nil},
		{"class k { r };", "require class k { r w };", []api.Conflict{found(api.ErrPerm, 1, 1, "k")}},
		{"require class k { r w };", "class k { r };", []api.Conflict{found(api.ErrPerm, 1, 1, "k")}},
		{"require class k { r };", " require class k { w };", nil},
		{"class k { r w };", "require class k { w }; require class k { r };", nil},
		{"class k { r w };", "require class k { w }; require class k { x };", []api.Conflict{found(api.ErrPerm, 1, 1, "k")}},
		{"class k { r };", "role k; type k; bool k true; sensitivity k; category k; require user k;", nil},
		{"role o;", "role o;", []api.Conflict{found(api.ErrTwice, 1, 1, "o")}},
		{"role o;", "require role o;", nil},
		{"bool p true;", " bool p false;", []api.Conflict{found(api.ErrTwice, 1, 2, "p")}},
		{"sensitivity s;", "category s; sensitivity s;", []api.Conflict{found(api.ErrTwice, 1, 13, "s")}},
		{"category s;", "category s; sensitivity s;", []api.Conflict{found(api.ErrTwice, 1, 1, "s")}},
		{"user u roles { o } level s range s;", "bool p true; user u roles { p } level t range t;", []api.Conflict{found(api.ErrTwice, 1, 14, "u")}},
		{"require role object_r;", "require role object_r;", nil},
		// Statements.
		{"sid n u:r:t:s;", "sid n u:r:t:s;", []api.Conflict{found(api.ErrTwice, 1, 1, "n")}},
		{"sid n u:r:t:s;", "sid m u:r:t:s;", nil},
		{"sid n u:r:t:s;", "assert n noflow a b;", nil},
		{"sid n u:r:t:s;", "type n;", nil},
		{"assert n noflow a b;", "bool x true; assert n separate b c;", []api.Conflict{found(api.ErrTwice, 1, 14, "n")}},
		{"assert n noflow a b;", "assert m noflow a b;", nil},
		{"filecon \"/\" any u:r:t:s;", "filecon \"/\" any u:r:t:s;", nil},
		{"allow a b : c d;", "allow a b : c d;", nil},
		// Blocks are not examined.
		{"optional { type t; sid n u:r:t:s; assert n noflow a b; }", "type t; sid n u:r:t:s; assert n noflow a b;", nil},
		{"type t; sid n u:r:t:s;", "optional { type x; } else { type t; sid n u:r:t:s; }", nil},
		{"sid n u:r:t:s;", "if p { sid n u:r:t:s; }", nil},
		{"optional { type t; } type t;", "optional { type t; } type t;", []api.Conflict{found(api.ErrTwice, 22, 22, "t")}},
	} {
		checkModules(t, modules(t, x.a, x.b), x.want...)
	}
}

// P14.1: the names of modules, and the order of the conflicts of two modules.
func TestOrderWithinModules(t *testing.T) {
	l := modules(t, "sid n u:r:t:s; type a; class k { r }; assert n noflow a b; attribute b; sid m u:r:t:s; require type c;",
		"assert n noflow a b; attribute c; sid m u:r:t:s; sid n u:r:t:s; type d; require class k { w }; type b; sid n u:r:t:s; type a;")
	want := []api.Conflict{
		found(api.ErrTwice, 16, 119, "a"), found(api.ErrPerm, 24, 73, "k"), found(api.ErrKind, 60, 96, "b"), found(api.ErrKind, 88, 22, "c"),
		found(api.ErrTwice, 1, 50, "n"), found(api.ErrTwice, 1, 104, "n"), found(api.ErrTwice, 39, 1, "n"), found(api.ErrTwice, 73, 35, "m"),
	}
	checkModules(t, l, want...)
	l[1].Name = l[0].Name
	checkModules(t, l, slices.Concat([]api.Conflict{{Code: api.ErrTwice, B: 1, Name: "m0"}}, want)...)
	l[0].Name, l[1].Name, l[1].Version = "", "", 7
	checkModules(t, l, slices.Concat([]api.Conflict{{Code: api.ErrTwice, B: 1}}, want)...)
}

// P14.1: all pairs, ordered by A and then by B.
func TestOrderOfPairs(t *testing.T) {
	l := modules(t, "type a; type b;", "type b;", "bool x true;", "type b; type a;", "type c; attribute a;")
	l[2].Name, l[4].Name = "same", "same"
	at := func(code api.Errno, a, b, colA, colB int, name string) api.Conflict {
		c := found(code, colA, colB, name)
		c.A, c.B = a, b
		return c
	}
	checkModules(t, l,
		at(api.ErrTwice, 0, 1, 9, 1, "b"), at(api.ErrTwice, 0, 3, 1, 9, "a"), at(api.ErrTwice, 0, 3, 9, 1, "b"), at(api.ErrKind, 0, 4, 1, 9, "a"),
		at(api.ErrTwice, 1, 3, 1, 1, "b"), api.Conflict{Code: api.ErrTwice, A: 2, B: 4, Name: "same"}, at(api.ErrKind, 3, 4, 9, 9, "a"))
	checkModules(t, nil)
	checkModules(t, l[:1])
	checkModules(t, modules(t, "type a; sid n u:r:t:s; sid n u:r:t:s;"))
}

// P14.1: a module whose symbols have a fault has none, but statements.
func TestFaultyModules(t *testing.T) {
	for _, faulty := range []string{"type a; type a; sid n u:r:t:s;", "type a; attribute a; sid n u:r:t:s;", "type a; role object_r; sid n u:r:t:s;"} {
		col := strings.Index(faulty, "sid") + 1
		checkModules(t, modules(t, faulty, "type a; sid n u:r:t:s;"), found(api.ErrTwice, col, 9, "n"))
		checkModules(t, modules(t, "type a; sid n u:r:t:s;", faulty), found(api.ErrTwice, 9, col, "n"))
	}
}

// modelModules says what Modules returns.
func modelModules(l []api.Module) []api.Conflict {
	type thing struct {
		s    api.Symbol
		kind int // of the statement, 0 for a symbol
	}
	things := func(m api.Module) []thing {
		var all []thing
		symbols, _ := scope.Symbols(m)
		for _, s := range symbols {
			all = append(all, thing{s, 0})
		}
		for _, s := range m.Stmts {
			if s.Kind == api.StmtSid || s.Kind == api.StmtAssert {
				all = append(all, thing{api.Symbol{Name: s.Name, Pos: s.Pos}, s.Kind})
			}
		}
		return all
	}
	isType := func(kind int) bool { return kind == api.SymType || kind == api.SymAttribute }
	meet := func(x, y thing) bool {
		return x.s.Name == y.s.Name && x.kind == y.kind && (x.s.Kind == y.s.Kind || isType(x.s.Kind) && isType(y.s.Kind))
	}
	lacks := func(x, y thing) bool { // y is a class that is required with more than x has
		return x.s.Kind == api.SymClass && !x.s.Required && y.s.Required && slices.ContainsFunc(y.s.Perms, func(name string) bool { return !slices.Contains(x.s.Perms, name) })
	}
	var all []api.Conflict
	for a := range l {
		for b := a + 1; b < len(l); b++ {
			if l[a].Name == l[b].Name {
				all = append(all, api.Conflict{Code: api.ErrTwice, A: a, B: b, Name: l[a].Name})
			}
			for _, x := range things(l[a]) {
				for _, y := range things(l[b]) {
					code := api.OK
					switch {
					case !meet(x, y):
					case x.s.Kind != y.s.Kind:
						code = api.ErrKind
					case !x.s.Required && !y.s.Required:
						code = api.ErrTwice
					case lacks(x, y) || lacks(y, x):
						code = api.ErrPerm
					}
					if code != api.OK {
						all = append(all, api.Conflict{Code: code, A: a, B: b, PosA: x.s.Pos, PosB: y.s.Pos, Name: x.s.Name})
					}
				}
			}
		}
	}
	return all
}

// source returns random statements with few names.
func (pick picker) source() string {
	var b strings.Builder
	for range pick(7) {
		b.WriteString(pick.word("type+a; type+b; type+c+alias+{+d+}; attribute+a; attribute+d; class+k+{+r+}; class+k+{+r+w+}; class+a+{+r+}; role+a; bool+a+true; category+b; sensitivity+b; sid+a+u:r:t:s; sid+b+u:r:t:s; assert+a+noflow+b+c; assert+c+noflow+b+c; require+type+a,b; require+type+d; require+attribute+b; require+class+k+{+w+}; require+class+k+{+r+x+}; require+role+a,+object_r; require+bool+a; optional+{+type+a;+} allow+a+b:k+r;") + "\n")
	}
	return b.String()
}

// random returns random modules, some of them with the same name.
func random(t *testing.T, seed int) []api.Module {
	t.Helper()
	pick := newPicker(seed)
	var sources []string
	for range pick(6) {
		sources = append(sources, pick.source())
	}
	l := modules(t, sources...)
	for i := range l {
		if pick(8) == 0 {
			l[i].Name = "m0"
		}
	}
	return l
}

// P14.1: random modules. Modules does not change them.
func TestModelOfModules(t *testing.T) {
	codes := map[api.Errno]int{}
	for seed := range 3000 {
		l := random(t, seed)
		want := modelModules(l)
		checkModules(t, l, want...)
		for _, c := range want {
			codes[c.Code]++
		}
		if !slices.EqualFunc(l, random(t, seed), printer.Same) {
			t.Fatalf("seed %d: the modules are changed", seed)
		}
	}
	for _, code := range []api.Errno{api.ErrKind, api.ErrTwice, api.ErrPerm} {
		if codes[code] < 100 {
			t.Errorf("only %d conflicts %v", codes[code], code)
		}
	}
}

// P14.1: many modules, and modules with many things.
func TestManyModules(t *testing.T) {
	l := slices.Repeat(modules(t, "type a; require type b;"), 40)
	if got := conflict.Modules(l); len(got) != 2*40*39/2 || got[1] != found(api.ErrTwice, 1, 1, "a") || got[1559].A != 38 || got[1559].B != 39 {
		t.Errorf("got %d conflicts", len(got))
	}
	long := strings.Repeat("sid n u:r:t:s;", 300)
	if got := conflict.Modules(modules(t, long, long)); len(got) != 300*300 || got[301] != found(api.ErrTwice, 15, 15, "n") {
		t.Errorf("got %d conflicts", len(got))
	}
	require := "require type n"
	for i := range 8000 {
		require += ", n" + strconv.Itoa(i)
	}
	checkModules(t, modules(t, require+";", require+";", require+", x;", "attribute x;"), api.Conflict{Code: api.ErrKind, A: 2, B: 3, PosA: api.Pos{Line: 1, Col: 1}, PosB: api.Pos{Line: 1, Col: 1}, Name: "x"})
}
