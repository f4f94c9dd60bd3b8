package decompiler_test

import (
	"reflect"
	"testing"

	"accesscontrol/api"
	"accesscontrol/compiler"
	"accesscontrol/conflict"
	"accesscontrol/decompiler"
	"accesscontrol/expand"
	"accesscontrol/linker"
	"accesscontrol/printer"
	"accesscontrol/syntax"
)

// hasEqualConditions reports whether two conditions of a policy are the same.
func hasEqualConditions(p api.Policy) bool {
	for i := range p.Conds {
		for j := range i {
			if same(p.Conds[i], p.Conds[j]) {
				return true
			}
		}
	}
	return false
}

func hasUserWithoutRoles(p api.Policy) bool {
	for _, u := range p.Users {
		if u.Roles == (api.Set{}) {
			return true
		}
	}
	return false
}

// P26.1, P26.2, P26.4: random policies.
func TestRandomPolicies(t *testing.T) {
	count := map[string]int{}
	for seed := range 600 {
		p := newPicker(seed).policy(t)
		m, code := decompiler.Module(p, "again")
		switch {
		case hasUserWithoutRoles(p):
			checkRefused(t, p, "again", api.ErrArg)
			count["without roles"]++
			continue
		case hasEqualConditions(p):
			checkRefused(t, p, "again", api.ErrTwice)
			count["equal conditions"]++
			continue
		case code != api.OK:
			t.Fatalf("seed %d: got %v", seed, code)
		}
		checkBack(t, p, m)
		want, f := syntax.Parse(modelModule(p, "again"))
		if f.Code != api.OK || !printer.Same(m, want) {
			t.Fatalf("seed %d: got %s, want %s, %v", seed, source(t, m.Stmts), modelModule(p, "again"), f)
		}
		symbols, code := decompiler.Symbols(p)
		if code != api.OK || !printer.SameStatements(symbols, statements(t, modelSymbols(p))) {
			t.Fatalf("seed %d: got %s, %v, want %s", seed, source(t, symbols), code, modelSymbols(p))
		}
		checkPositions(t, m.Stmts)
		checkPositions(t, symbols)
		src, code := decompiler.Source(p, "again")
		printed, wanted := printer.Module(m)
		if src != printed || code != wanted {
			t.Fatalf("seed %d: got %q, %v, want %q, %v", seed, src, code, printed, wanted)
		}
		count["policies"]++
		if code == api.OK && checkSource(t, p, m, src) {
			count["compiled"]++
		}
	}
	for what, least := range map[string]int{"policies": 450, "without roles": 15, "equal conditions": 10, "compiled": 200} {
		if count[what] < least {
			t.Errorf("got %v, want at least %d %s", count, least, what)
		}
	}
}

// checkBack checks that a module is linked to a policy.
func checkBack(t *testing.T, p api.Policy, m api.Module) {
	t.Helper()
	q, n, f := linker.Link([]api.Module{m})
	if n != -1 || f.Code != api.OK || !same(p, q) {
		t.Fatalf("Link(%s): got %s, %d, %v, want %s", brief(m), brief(q), n, f, brief(p))
	}
}

// checkSource checks the source of a policy with a module, and reports whether it can be compiled.
func checkSource(t *testing.T, p api.Policy, m api.Module, src string) bool {
	t.Helper()
	parsed, f := syntax.Parse(src)
	if f.Code != api.OK || !printer.Same(parsed, m) {
		t.Fatalf("Parse(%s): got %v, %v", src, brief(parsed), f)
	}
	q, n, f := compiler.Compile([]string{src})
	if len(conflict.Policy(p)) > 0 || len(expand.Never(p)) > 0 {
		if f.Code != api.ErrConflict && f.Code != api.ErrNever {
			t.Fatalf("Compile(%s): got %d, %v", src, n, f)
		}
		return false
	}
	if n != -1 || f.Code != api.OK || !compiler.Equal(p, q) {
		t.Fatalf("Compile(%s): got %s, %d, %v, want %s", src, brief(q), n, f, brief(p))
	}
	return true
}

// checkRefused checks the error of Module and of Source.
func checkRefused(t *testing.T, p api.Policy, name string, want api.Errno) {
	t.Helper()
	if m, code := decompiler.Module(p, name); code != want || !same(m, api.Module{}) {
		t.Errorf("Module of %s: got %s, %v, want %v", brief(p), brief(m), code, want)
	}
	if s, code := decompiler.Source(p, name); code != want || s != "" {
		t.Errorf("Source of %s: got %.100q, %v, want %v", brief(p), s, code, want)
	}
}

// P26.3, P26.5: the rules and contexts of random policies.
func TestPartsOfRandomPolicies(t *testing.T) {
	for seed := range 300 {
		pick := newPicker(seed)
		p := pick.policy(t)
		for n := range p.Rules {
			s, code := decompiler.Rule(p, n)
			if want := statements(t, (&model{p: p}).rule(n)); code != api.OK || !printer.SameStatements([]api.Stmt{s}, want) {
				t.Errorf("seed %d, rule %d: got %s, %v, want %s", seed, n, brief(s), code, brief(want))
			}
			checkPositions(t, []api.Stmt{s})
		}
		for range 20 {
			c := pick.context(&p)
			if pick.seldom(2) { // perhaps not valid
				c.User, c.Role, c.Type = pick(len(p.Users)), pick(len(p.Roles)), pick(len(p.Types))
			}
			text, code := decompiler.Context(p, c)
			want, _ := syntax.Context((&model{p: p}).context(c))
			if code != api.OK || !same(text, want) {
				t.Errorf("seed %d: Context(%v): got %v, %v, want %v", seed, c, text, code, want)
			}
			if back, code := linker.Context(p, text); back != c || code != api.OK {
				t.Errorf("seed %d: Context(%v): got %v, %v, want %v", seed, text, back, code, c)
			}
		}
	}
}

// P26.1 to P26.3: arguments are not changed, results share no memory with them, nor do their parts with each other.
func TestMemory(t *testing.T) {
	p, want := linked(t, large), linked(t, large)
	m, _ := decompiler.Module(p, "m")
	l, _ := decompiler.Symbols(p)
	s, _ := decompiler.Rule(p, 0)
	c, _ := decompiler.Context(p, p.Files[0].Context)
	seen := map[uintptr]bool{}
	twice := func(address uintptr) {
		if seen[address] {
			t.Error("parts of results share memory")
		}
		seen[address] = true
	}
	memories(reflect.ValueOf(p), twice)
	memories(reflect.ValueOf(m), twice)
	memories(reflect.ValueOf(l), twice)
	memories(reflect.ValueOf(s), twice)
	memories(reflect.ValueOf(c), twice)
	if !same(p, want) || len(seen) < 300 {
		t.Errorf("the policy is changed, or only %d addresses", len(seen))
	}
	scribble(reflect.ValueOf(m))
	scribble(reflect.ValueOf(l))
	scribble(reflect.ValueOf(s))
	scribble(reflect.ValueOf(c))
	if !same(p, want) {
		t.Error("the policy shares memory with a result")
	}
}
