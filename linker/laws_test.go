package linker_test

import (
	"slices"
	"strconv"
	"testing"

	"accesscontrol/api"
	"accesscontrol/bitset"
	"accesscontrol/linker"
	"accesscontrol/nameset"
	"accesscontrol/printer"
	"accesscontrol/scope"
	"accesscontrol/symbols"
	"accesscontrol/syntax"
)

// P13.1 to P13.4: random modules. Link does not change them.
func TestModel(t *testing.T) {
	codes := map[api.Errno]int{}
	for seed := range 1200 {
		l := random(t, seed)
		want, module, f := modelLink(l)
		codes[f.Code]++
		got, n, g := linker.Link(l)
		if n != module || g != f || !same(got, want) {
			t.Fatalf("seed %d: got %v, %d, %v, want %v, %d, %v", seed, got, n, g, want, module, f)
		}
		if !slices.EqualFunc(l, random(t, seed), printer.Same) {
			t.Fatalf("seed %d: the modules are changed", seed)
		}
	}
	for code, least := range map[api.Errno]int{api.OK: 500, api.ErrKind: 20, api.ErrTwice: 20, api.ErrRequire: 2, api.ErrScope: 2, api.ErrLevel: 20, api.ErrContext: 20} {
		if codes[code] < least {
			t.Errorf("only %d random modules with the fault %v", codes[code], code)
		}
	}
}

// linked calls a function for random modules without a fault, and their policies.
func linked(t *testing.T, do func(seed int, l []api.Module, p api.Policy)) {
	t.Helper()
	for seed, count := 0, 0; count < 300; seed++ {
		l := random(t, seed)
		if p, _, f := linker.Link(l); f.Code == api.OK {
			do(seed, l, p)
			count++
		}
	}
}

// P13.10: a policy that Link returns is valid.
func TestLinkedIsValid(t *testing.T) {
	linked(t, func(seed int, l []api.Module, p api.Policy) {
		if code := linker.Check(p); code != api.OK {
			t.Errorf("seed %d: got %v", seed, code)
		}
	})
}

// moved returns statements with other positions.
func moved(l []api.Stmt, to api.Pos) []api.Stmt {
	l = slices.Clone(l)
	for i := range l {
		l[i].Pos, l[i].Then, l[i].Else = to, moved(l[i].Then, to), moved(l[i].Else, to)
	}
	return l
}

// P13.11: linking does not depend on the names of modules, on versions, and on positions.
func TestNamesAndPositions(t *testing.T) {
	for seed := range 600 {
		l := random(t, seed)
		p, n, f := linker.Link(l)
		if f.Code == api.ErrTwice && f.Pos == (api.Pos{}) {
			continue // two modules with the same name
		}
		to := api.Pos{Line: seed, Col: 7}
		for i := range l {
			l[i].Name, l[i].Version, l[i].Stmts = "other"+strconv.Itoa(len(l)-i), 77, moved(l[i].Stmts, to)
		}
		if f.Code != api.OK {
			f.Pos = to
		}
		q, k, g := linker.Link(l)
		if !same(p, q) || n != k || f != g {
			t.Errorf("seed %d: got %v, %d, %v, want %v, %d, %v", seed, q, k, g, p, n, f)
		}
	}
}

// divided returns statements in which each statement in a block of if stands in one by itself.
func divided(l []api.Stmt) []api.Stmt {
	var all []api.Stmt
	empty, _ := syntax.Statements("allow { a - a } a : k r;")
	for _, s := range l {
		if s.Kind != api.StmtIf {
			all = append(all, s)
		}
		for _, inner := range s.Then {
			all = append(all, api.Stmt{Kind: api.StmtIf, Pos: s.Pos, Cond: s.Cond, Then: []api.Stmt{inner}})
		}
		for _, inner := range s.Else {
			all = append(all, api.Stmt{Kind: api.StmtIf, Pos: s.Pos, Cond: s.Cond, Then: empty, Else: []api.Stmt{inner}})
		}
	}
	return all
}

// P13.11: blocks of if can be divided.
func TestDivided(t *testing.T) {
	for seed := range 600 {
		l := random(t, seed)
		p, n, f := linker.Link(l)
		for i := range l {
			l[i].Stmts = divided(l[i].Stmts)
		}
		q, k, g := linker.Link(l)
		f.Pos, g.Pos = api.Pos{}, api.Pos{} // scope.Check looks at a whole if statement at once
		if !same(p, q) || n != k || f != g {
			t.Errorf("seed %d: got %v, %d, %v, want %v, %d, %v", seed, q, k, g, p, n, f)
		}
	}
}

// P13.12: Symbol finds each name that is declared.
func TestDeclaredNames(t *testing.T) {
	linked(t, func(seed int, l []api.Module, p api.Policy) {
		for _, m := range l {
			declared, _ := scope.Symbols(m)
			for _, s := range declared {
				if n, found := linker.Symbol(p, s.Kind, s.Name); !found || n >= linker.Count(p, s.Kind) {
					t.Errorf("seed %d, %v: got %d, %v", seed, s, n, found)
				}
			}
		}
	})
}

// P13.13: modules that are printed and parsed again.
func TestPrinted(t *testing.T) {
	for seed := range 600 {
		l := random(t, seed)
		var again []api.Module
		for _, m := range l {
			src, code := printer.Module(m)
			m, f := syntax.Parse(src)
			if code != api.OK || f.Code != api.OK {
				t.Fatalf("seed %d: got %v, %v", seed, code, f)
			}
			again = append(again, m)
		}
		p, n, f := linker.Link(l)
		q, k, g := linker.Link(again)
		f.Pos, g.Pos = api.Pos{}, api.Pos{}
		if !same(p, q) || n != k || f != g {
			t.Errorf("seed %d: got %v, %d, %v, want %v, %d, %v", seed, q, k, g, p, n, f)
		}
	}
}

// P13.14: the rules without a condition.
func TestRulesWithoutCondition(t *testing.T) {
	linked(t, func(seed int, l []api.Module, p api.Policy) {
		var want []api.Rule
		for _, m := range l {
			for _, s := range m.Stmts {
				if s.Kind != api.StmtRule {
					continue
				}
				source, _ := nameset.Types(s.Source, linker.Env(p))
				target, _ := nameset.Types(s.Target, linker.Env(p))
				classes, _ := nameset.Classes(s.Class, p.Classes)
				for _, class := range bitset.List(classes) {
					perms, _ := nameset.Perms(s.Perms, p.Classes[class])
					if bitset.Count(source) > 0 && (bitset.Count(target) > 0 || s.Target.Self) && perms != 0 {
						want = append(want, api.Rule{Kind: s.Op, Source: source, Target: target, Self: s.Target.Self, Class: class, Perms: perms})
					}
				}
			}
		}
		got := slices.DeleteFunc(slices.Clone(p.Rules), func(r api.Rule) bool { return r.Cond != 0 })
		if !slices.Equal(got, want) {
			t.Errorf("seed %d: got %v, want %v", seed, got, want)
		}
	})
}

// checkTable checks that Symbol and Count agree with a table of the names of a kind.
func checkTable(t *testing.T, p api.Policy, kind int, names []string, aliases map[string]int) {
	t.Helper()
	table := symbols.New(4096)
	for _, name := range names {
		table.Add(name)
	}
	for alias, n := range aliases {
		table.Alias(alias, n)
	}
	if table.Len() != len(names) || linker.Count(p, kind) != table.Len() {
		t.Errorf("Count(%d): got %d, the table has %d", kind, linker.Count(p, kind), table.Len())
	}
	for _, name := range append(table.Sorted(), "", "z", "f", "object_r", "read") {
		n, found := linker.Symbol(p, kind, name)
		if k, there := table.Find(name); n != k || found != there {
			t.Errorf("Symbol(%d, %q): got %d, %v, the table has %d, %v", kind, name, n, found, k, there)
		}
	}
}

// P13.15: Symbol and Count agree with a table.
func TestTables(t *testing.T) {
	linked(t, func(seed int, l []api.Module, p api.Policy) {
		names, aliases := map[int][]string{api.SymSensitivity: p.Sens, api.SymCategory: p.Cats}, map[string]int{}
		for i, x := range p.Types {
			names[api.SymType] = append(names[api.SymType], x.Name)
			for _, alias := range x.Aliases {
				aliases[alias] = i
			}
		}
		for _, x := range p.Classes {
			names[api.SymClass] = append(names[api.SymClass], x.Name)
		}
		for _, x := range p.Attrs {
			names[api.SymAttribute] = append(names[api.SymAttribute], x.Name)
		}
		for _, x := range p.Roles {
			names[api.SymRole] = append(names[api.SymRole], x.Name)
		}
		for _, x := range p.Users {
			names[api.SymUser] = append(names[api.SymUser], x.Name)
		}
		for _, x := range p.Bools {
			names[api.SymBool] = append(names[api.SymBool], x.Name)
		}
		for kind := api.SymClass; kind <= api.SymCategory; kind++ {
			if kind == api.SymType {
				checkTable(t, p, kind, names[kind], aliases)
			} else {
				checkTable(t, p, kind, names[kind], nil)
			}
		}
	})
}

// A policy shares no memory with the modules, and its lists share none with each other.
func TestMemory(t *testing.T) {
	const src = base + "if p && q { allow a b : file read; } constrain { file dir } read !(u1 == u2 && t1 in a); validatetrans * !(u1 == u2 || r1 == r2);"
	l := modules(t, src)
	p, _, _ := linker.Link(l)
	want, _, _ := linker.Link(modules(t, src))
	for i := range l[0].Stmts {
		s := &l[0].Stmts[i]
		for _, names := range [][]string{s.List, s.Aliases} {
			for j := range names {
				names[j] = "changed"
			}
		}
		for j := range s.Cond.Kids {
			clear(s.Cond.Kids[j].Kids)
			s.Cond.Kids[j] = api.Expr{}
		}
	}
	if !same(p, want) {
		t.Errorf("the policy has changed with the modules: %v", p)
	}
	for i := range p.Constraints {
		kids := p.Constraints[i].Expr.Kids
		kids[0].Op, kids[0].Kids[0].Op = -i, -i
	}
	for i := range p.Constraints {
		if kids := p.Constraints[i].Expr.Kids; kids[0].Op != -i || kids[0].Kids[0].Op != -i {
			t.Errorf("the constraint %d shares memory with another one", i)
		}
	}
}
