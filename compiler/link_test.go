package compiler_test

import (
	"slices"
	"testing"

	"accesscontrol/api"
	"accesscontrol/compiler"
	"accesscontrol/conflict"
	"accesscontrol/expand"
	"accesscontrol/linker"
	"accesscontrol/optional"
	"accesscontrol/syntax"
)

// parsed returns the modules of sources, which may have faults that only modcheck finds.
func parsed(t *testing.T, src ...string) []api.Module {
	t.Helper()
	var l []api.Module
	for _, s := range src {
		m, f := syntax.Parse(s)
		if f.Code != api.OK {
			t.Fatalf("Parse(%q): got %v", s, f)
		}
		l = append(l, m)
	}
	return l
}

// P23.2: no modules, and too many of them.
func TestCountOfModules(t *testing.T) {
	checkLink(t, nil, none, api.Fault{Code: api.ErrArg})
	checkLink(t, []api.Module{}, none, api.Fault{Code: api.ErrArg})
	checkLink(t, make([]api.Module, api.MaxModules+1), none, api.Fault{Code: api.ErrLong})
	broken := parsed(t, "module m 1; optional { type a; type a; }")
	checkLink(t, slices.Repeat(broken, api.MaxModules+1), none, api.Fault{Code: api.ErrLong})
	checkLink(t, slices.Repeat(broken, api.MaxModules), none, fault(api.ErrTwice, 1, 32, "a"))
}

// P23.2: the faults of each pass, alone.
func TestFaultsOfModules(t *testing.T) {
	for _, x := range []struct {
		src  []string
		n    int
		want api.Fault
	}{
		// optional.Flatten: no module.
		{[]string{base, "module m 1;\noptional { type d; type d; }"}, none, fault(api.ErrTwice, 2, 20, "d")},
		{[]string{"module m 1; type d; attribute d;"}, none, fault(api.ErrKind, 1, 21, "d")},
		// conflict.Modules: the module B, the position and the name there.
		{[]string{base, "module m 1;\n  type a;"}, 1, fault(api.ErrTwice, 2, 3, "a")},
		{[]string{base, "module m 1;", "module n 1; bool q true; require type x;"}, 2, fault(api.ErrKind, 1, 26, "x")},
		{[]string{base, "module m 1;\nrequire class file { read add };"}, 1, fault(api.ErrPerm, 2, 1, "file")},
		{[]string{base, base}, 1, api.Fault{Code: api.ErrTwice, Name: "base"}},
		{[]string{base, "module m 1;", "module m 2;"}, 2, api.Fault{Code: api.ErrTwice, Name: "m"}},
		{[]string{base, "module m 1; optional { require type a; type b; }"}, 1, fault(api.ErrTwice, 1, 40, "b")},
		{[]string{base, "module m 1; optional { require type z; type y; } else { type b; }"}, 1, fault(api.ErrTwice, 1, 57, "b")},
		{[]string{base, "module m 1; type d; type a;", "module n 1; type d; type b;"}, 1, fault(api.ErrTwice, 1, 21, "a")},
		// linker.Link: its module.
		{[]string{base, "module m 1;\ntype d;\nrequire type z;"}, 1, fault(api.ErrRequire, 3, 1, "z")},
		{[]string{"module m 1; require type z;", base}, 0, fault(api.ErrRequire, 1, 13, "z")},
		{[]string{base + "sid o u:m:c:s0;"}, 0, fault(api.ErrContext, 2, 1, "")},
		{[]string{base, "module m 1; if p { type d; }"}, 1, fault(api.ErrKind, 1, 20, "")},
		// conflict.Policy: the code and the name.
		{[]string{base + "type_transition a b : file a \"log\"; type_transition a b : file b \"log\";"}, none, api.Fault{Code: api.ErrConflict, Name: "log"}},
		{[]string{base + "type_change a b : file a; type_change x b : file c;"}, none, api.Fault{Code: api.ErrConflict}},
		{[]string{base + "role_transition m b : file m; role_transition * b : file n;"}, none, api.Fault{Code: api.ErrConflict, Name: "role"}},
		{[]string{base + "range_transition a b : file s0; range_transition a b : file s1;"}, none, api.Fault{Code: api.ErrConflict, Name: "range"}},
		{[]string{base + "filecon \"/x.*\" any u:object_r:a:s0; filecon \"/x.*\" any u:object_r:b:s0;"}, none, api.Fault{Code: api.ErrConflict, Name: "/x.*"}},
		// expand.Never: the source type of the first entry.
		{[]string{base + "neverallow x c : file write; allow { c b } * : file *;"}, none, api.Fault{Code: api.ErrNever, Name: "b"}},
		{[]string{base + "neverallow * * : file write; allow c a : file write; allow b c : file write;"}, none, api.Fault{Code: api.ErrNever, Name: "b"}},
		{[]string{base + "neverallow c self : dir add;\nif p && !p { allow c c : { file dir } *; }"}, none, api.Fault{Code: api.ErrNever, Name: "c"}},
		{[]string{base + "neverallow c self : file write; if p { allow c a : file write; } else { allow { c a } self : file write; }"}, none, api.Fault{Code: api.ErrNever, Name: "c"}},
	} {
		checkLink(t, parsed(t, x.src...), x.n, x.want)
	}
}

// P23.2: what neverallow rules do not forbid.
func TestNotForbidden(t *testing.T) {
	p := compiled(t, base+"neverallow a b : file write; allow a b : file read; auditallow a b : file write; dontaudit a b : file write; allow a b : dir add; allow b a : file write; allow a self : file write; neverallow c self : file *;")
	if len(p.Rules) != 8 {
		t.Errorf("got %v", p.Rules)
	}
}

// P23.2: of faults of several passes, that of the first pass is returned.
func TestOrderOfFaults(t *testing.T) {
	const (
		flatten = "optional { type a; type a; }\n"
		meet    = "type a;\n"
		link    = "require type z;\n"
		policy  = "range_transition a b : file s0; range_transition a b : file s1;\n"
		never   = "neverallow a b : file write; allow a b : file write;\n"
	)
	for _, x := range []struct {
		first, second string
		n             int
		want          api.Fault
	}{
		{policy + never, flatten + meet + link, none, fault(api.ErrTwice, 2, 20, "a")},
		{link, meet + flatten, none, fault(api.ErrTwice, 3, 20, "a")},
		{policy + never, meet + link, 1, fault(api.ErrTwice, 2, 1, "a")},
		{link + policy + never, meet, 1, fault(api.ErrTwice, 2, 1, "a")},
		{policy + never, link, 1, fault(api.ErrRequire, 2, 1, "z")},
		{policy + never, "", none, api.Fault{Code: api.ErrConflict, Name: "range"}},
		{never + policy, "", none, api.Fault{Code: api.ErrConflict, Name: "range"}},
		{never, "", none, api.Fault{Code: api.ErrNever, Name: "a"}},
		{"", "", none, api.Fault{}},
	} {
		_, n, f := compiler.Link(parsed(t, base+x.first, "module second 1;\n"+x.second))
		if n != x.n || f != x.want {
			t.Errorf("%q and %q: got %d, %v, want %d, %v", x.first, x.second, n, f, x.n, x.want)
		}
	}
}

// wanted says what Link is to return.
func wanted(l []api.Module) (api.Policy, int, api.Fault) {
	flat, f := optional.Flatten(l)
	if f.Code != api.OK {
		return api.Policy{}, none, f
	}
	for _, c := range conflict.Modules(flat) {
		return api.Policy{}, c.B, api.Fault{Code: c.Code, Pos: c.PosB, Name: c.Name}
	}
	p, n, f := linker.Link(flat)
	if f.Code != api.OK {
		return api.Policy{}, n, f
	}
	for _, c := range conflict.Policy(p) {
		return api.Policy{}, none, api.Fault{Code: c.Code, Name: c.Name}
	}
	for _, e := range expand.Never(p) {
		return api.Policy{}, none, api.Fault{Code: api.ErrNever, Name: p.Types[e.Source].Name}
	}
	return p, none, api.Fault{}
}

// P23.2, P23.3, P23.6: random sources. A policy is valid, and has neither conflicts nor what is forbidden; modules are not changed.
func TestRandomSources(t *testing.T) {
	count := map[api.Errno]int{}
	for seed := range 1500 {
		src := newPicker(seed).sources()
		l, n, f := compiler.Modules(src)
		if f.Code != api.OK {
			checkCompile(t, src, n, f)
			continue
		}
		want, n, f := wanted(l)
		count[f.Code]++
		p, k, g := compiler.Link(l)
		q, m, h := compiler.Compile(src)
		if k != n || g != f || !same(p, want) || m != n || h != f || !same(q, want) {
			t.Fatalf("seed %d: got %s, %d, %v and %s, %d, %v, want %s, %d, %v", seed, brief(p), k, g, brief(q), m, h, brief(want), n, f)
		}
		if again, _, _ := compiler.Modules(src); !same(l, again) {
			t.Fatalf("seed %d: the modules are changed", seed)
		}
		if f.Code == api.OK && (linker.Check(p) != api.OK || len(conflict.Policy(p)) > 0 || len(expand.Never(p)) > 0) {
			t.Errorf("seed %d: got %v, %v, %v", seed, linker.Check(p), conflict.Policy(p), expand.Never(p))
		}
	}
	for code, least := range map[api.Errno]int{api.OK: 400, api.ErrTwice: 20, api.ErrConflict: 40, api.ErrNever: 40, api.ErrRequire: 5, api.ErrContext: 5} {
		if count[code] < least {
			t.Errorf("only %d random sources with the fault %v", count[code], code)
		}
	}
}

// P23.2: as many conditions and types as there may be.
func TestFullPolicy(t *testing.T) {
	const bools = 16
	src := "module first 1; class k { r }; class j { r };"
	for i := range bools {
		src += " bool p" + string(rune('a'+i)) + " true;"
	}
	for i := range api.MaxTypes {
		src += " type t" + string(rune('a'+i/16)) + string(rune('a'+i%16)) + ";"
	}
	for i := range api.MaxConds {
		src += " if p" + string(rune('a'+i%bools)) + " != p" + string(rune('a'+i/bools)) + " { allow * * : k r; } else { allow * * : k r; }"
	}
	p := compiled(t, src+" neverallow * * : j r;")
	if len(p.Rules) != 2*api.MaxConds+1 || len(p.Conds) != api.MaxConds {
		t.Errorf("got %d rules, %d conditions", len(p.Rules), len(p.Conds))
	}
	checkCompile(t, []string{src + " neverallow tcc self : k r; neverallow tbb tab : { j k } r;"}, none, api.Fault{Code: api.ErrNever, Name: "tbb"})
}

// P1: any modules end without a panic.
func TestAnyModules(t *testing.T) {
	deep := api.Expr{Op: api.ExprName, Names: []string{"p"}}
	block := api.Stmt{Kind: api.StmtOptional}
	for range 20000 {
		deep = api.Expr{Op: api.ExprNot, Kids: []api.Expr{deep}}
		block = api.Stmt{Kind: api.StmtOptional, Then: []api.Stmt{block}}
	}
	all := api.NameSet{All: true}
	for _, s := range []api.Stmt{
		{}, {Kind: -1}, {Kind: 99}, block, {Kind: api.StmtIf, Cond: deep}, {Kind: api.StmtConstrain, Cond: deep, Class: all, Perms: all},
		{Kind: api.StmtRule, Op: 99, Source: all, Target: all, Class: all, Perms: all}, {Kind: api.StmtRule, Op: api.RuleNeverAllow, Source: all, Target: all, Class: all, Perms: all},
		{Kind: api.StmtTrans, Op: -5, Source: all, Target: all, Class: all, Result: "a", Text: "/"}, {Kind: api.StmtClass}, {Kind: api.StmtType}, {Kind: api.StmtSid}, {Kind: api.StmtFile, Op: 77},
	} {
		for _, l := range [][]api.Module{{{Stmts: []api.Stmt{s}}}, {{Name: "m"}, {Name: "x", Version: -1, Stmts: []api.Stmt{s, s}}}, append(parsed(t, small), api.Module{Stmts: []api.Stmt{s}}, api.Module{})} {
			if p, n, f := compiler.Link(l); f.Code != api.OK && !same(p, api.Policy{}) || n < none || n >= len(l) {
				t.Errorf("Link(%s): got %s, %d, %v", brief(l), brief(p), n, f)
			}
		}
	}
}
