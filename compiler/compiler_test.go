package compiler_test

import (
	"slices"
	"strconv"
	"strings"
	"testing"

	"accesscontrol/api"
	"accesscontrol/compiler"
	"accesscontrol/modcheck"
	"accesscontrol/printer"
	"accesscontrol/syntax"
)

// P23.1: the modules of sources, in order.
func TestModules(t *testing.T) {
	l := modules(t, "module two 2;\n type a;", "module one 1; require type z; allow z z : f g; require class f { g };", "module two 2; type a;")
	if len(l) != 3 || l[0].Name != "two" || l[0].Version != 2 || l[1].Name != "one" || !printer.Same(l[0], l[2]) {
		t.Fatalf("got %v", l)
	}
	if l[0].Stmts[0].Pos != (api.Pos{Line: 2, Col: 2}) || len(l[1].Stmts) != 3 || l[1].Stmts[1].Op != api.RuleAllow {
		t.Errorf("got %v", l)
	}
	l = modules(t, slices.Repeat([]string{small}, api.MaxModules)...)
	want, f := syntax.Parse(small)
	if len(l) != api.MaxModules || f.Code != api.OK {
		t.Fatalf("got %d modules, %v", len(l), f)
	}
	for _, m := range l {
		if !same(m, want) {
			t.Errorf("got %s", brief(m))
		}
	}
}

// P23.1: faults, in their order.
func TestFaultsOfSources(t *testing.T) {
	const good, unparsed, unchecked = "module m 1;", "module m 1; type", "module m 1;\ntype a; permissive b;"
	syntaxFault, checkFault := fault(api.ErrSyntax, 1, 17, ""), fault(api.ErrScope, 2, 9, "b")
	for _, x := range []struct {
		src  []string
		n    int
		want api.Fault
	}{
		{nil, none, api.Fault{Code: api.ErrArg}},
		{[]string{}, none, api.Fault{Code: api.ErrArg}},
		{make([]string, api.MaxModules+1), none, api.Fault{Code: api.ErrLong}},
		{slices.Repeat([]string{unchecked}, api.MaxModules+1), none, api.Fault{Code: api.ErrLong}},
		{make([]string, api.MaxModules), 0, fault(api.ErrSyntax, 1, 1, "")},
		{[]string{""}, 0, fault(api.ErrSyntax, 1, 1, "")},
		{[]string{unparsed}, 0, syntaxFault},
		{[]string{good, unparsed}, 1, syntaxFault},
		{[]string{unchecked}, 0, checkFault},
		{[]string{good, good, unchecked}, 2, checkFault},
		{[]string{good, unchecked, unparsed}, 1, checkFault},
		{[]string{good, unparsed, unchecked}, 1, syntaxFault},
		{[]string{unchecked + " type"}, 0, fault(api.ErrSyntax, 2, 27, "")},
		{[]string{strings.Repeat(" ", api.MaxSource) + good}, 0, api.Fault{Code: api.ErrLong}},
		{[]string{good, "module m 1;\n\"\x01"}, 1, fault(api.ErrSyntax, 2, 2, "")},
		{[]string{"module m 10000;"}, 0, fault(api.ErrRange, 1, 10, "10000")},
		{[]string{"module m 1; bool x true; if x { attribute a; }"}, 0, fault(api.ErrKind, 1, 33, "")},
		{[]string{"module m 1; class c { a b a };"}, 0, fault(api.ErrTwice, 1, 13, "a")},
	} {
		checkModules(t, x.src, x.n, x.want)
	}
}

// P23.1: the fault is that of syntax.Parse or of modcheck.Check.
func TestFaultsOfRandomSources(t *testing.T) {
	count := map[bool]int{}
	for seed := range 2000 {
		src := newPicker(seed).sources()
		var want []api.Module
		at, wanted := none, api.Fault{}
		for i, s := range src {
			m, f := syntax.Parse(s)
			if f.Code == api.OK {
				f = modcheck.Check(m)
			}
			if f.Code != api.OK {
				want, at, wanted = nil, i, f
				break
			}
			want = append(want, m)
		}
		l, n, f := compiler.Modules(slices.Clone(src))
		count[f.Code == api.OK]++
		if n != at || f != wanted || !same(l, want) {
			t.Errorf("seed %d: got %s, %d, %v, want %d, %v", seed, brief(l), n, f, at, wanted)
		}
	}
	if min(count[true], count[false]) < 100 {
		t.Errorf("got %v", count)
	}
}

// P23.1: the modules share no memory, not even those of equal sources.
func TestMemoryOfModules(t *testing.T) {
	l := modules(t, small, small)
	for i := range l[0].Stmts {
		l[0].Stmts[i] = api.Stmt{}
	}
	if want, _ := syntax.Parse(small); !same(l[1], want) {
		t.Errorf("got %s", brief(l[1]))
	}
}

// P23.3: the examples of the chapter.
func TestExamples(t *testing.T) {
	p := compiled(t, small)
	if compiler.Size(p) != 23 {
		t.Errorf("Size: got %d", compiler.Size(p))
	}
	if len(p.Classes) != 3 || len(p.Types) != 4 || len(p.Attrs) != 1 || len(p.Roles) != 2 || len(p.Users) != 1 || len(p.Bools) != 1 || len(p.Sens) != 1 ||
		len(p.Conds) != 1 || len(p.Rules) != 5 || len(p.Trans) != 1 || len(p.Sids) != 3 || p.Rules[4].Cond != 1 {
		t.Errorf("got %v", p)
	}
	checkCompile(t, nil, none, api.Fault{Code: api.ErrArg})
	empty := compiled(t, "module m 1;")
	if compiler.Size(empty) != 1 || !same(empty, api.Policy{Roles: []api.Role{{Name: api.ObjectRole}}}) {
		t.Errorf("got %v", empty)
	}
}

// P23.3: several modules, with optional blocks.
func TestCompile(t *testing.T) {
	more := "module more 2; require type a; require class file { write }; type d; allow d a : file write; optional { require type missing; allow missing a : file write; } else { allow a d : file write; } optional { require type c; permissive c; }"
	for _, src := range [][]string{{base, more}, {more, base}} {
		p := compiled(t, src...)
		if len(p.Types) != 4 || len(p.Rules) != 2 {
			t.Fatalf("got %v", p)
		}
		for _, x := range p.Types {
			if x.Permissive != (x.Name == "c") {
				t.Errorf("got %v", p.Types)
			}
		}
	}
	// So many modules as there may be.
	src := []string{base}
	for i := range api.MaxModules - 1 {
		src = append(src, "module m"+strconv.Itoa(i)+" 0; type t"+strconv.Itoa(i)+";")
	}
	if p := compiled(t, src...); len(p.Types) != 3+api.MaxModules-1 {
		t.Errorf("got %v", p.Types)
	}
	checkCompile(t, append(src, "module last 0;"), none, api.Fault{Code: api.ErrLong})
}
