package scope_test

import (
	"reflect"
	"slices"
	"testing"

	"accesscontrol/api"
	"accesscontrol/printer"
	"accesscontrol/scope"
	"accesscontrol/syntax"
)

// given is a source that declares most of what random sources use, so that many of them have no fault.
const given = "class c { p q };\nrequire class d { p };\ntype a;\ntype b alias { e };\nattribute x; attribute y;\nrole k; require role l, m;\nuser u roles { k } level s range s;\nbool u true; bool v true; bool w false;\nsensitivity s; category t; category a; user k roles { k } level s range s;\n"

// random returns the statements of a random source, half of them behind given.
func random(t *testing.T, seed int) []api.Stmt {
	pick := newPicker(seed)
	if pick(2) == 0 {
		return parsed(t, given+pick.source(pick(5), 3))
	}
	return parsed(t, pick.source(pick(8), 3))
}

// P10.1, P10.3, P10.4: modules with random statements.
func TestModel(t *testing.T) {
	codes := map[api.Errno]int{}
	for seed := range 6000 {
		l := random(t, seed)
		want, f := modelBlock(l)
		checkBlock(t, l, spelled(want), f)
		checkUses(t, l, spelled(modelUses(l)))
		f = modelCheck(l, nil)
		checkFault(t, l, f)
		codes[f.Code]++
		if !printer.SameStatements(l, random(t, seed)) {
			t.Errorf("the statements are changed: %v", l)
		}
		if t.Failed() {
			return
		}
	}
	for _, code := range []api.Errno{api.OK, api.ErrKind, api.ErrTwice, api.ErrScope, api.ErrPerm} {
		if codes[code] < 50 {
			t.Errorf("only %d random modules with the fault %v", codes[code], code)
		}
	}
}

// P10.6: a module has a fault exactly if some scope uses something that is not visible, or declares something twice.
func TestFaultless(t *testing.T) {
	for seed := range 5000 {
		l := random(t, seed)
		if f := scope.Check(api.Module{Stmts: l}); (f.Code == api.OK) != faultless(l, nil) {
			t.Fatalf("%v: got %v", l, f)
		}
	}
}

// faultless reports whether everything is in order in a scope and in those within it.
func faultless(l []api.Stmt, visible []api.Symbol) bool {
	symbols, f := scope.Block(l)
	visible = slices.Concat(visible, symbols)
	for i, s := range visible {
		f := faultBehind(s, visible[:i])
		if f.Code != api.OK {
			return false
		}
	}
	for _, use := range scope.Uses(l) {
		if modelUse(use, visible).Code != api.OK {
			return false
		}
	}
	for _, s := range l {
		if s.Kind == api.StmtOptional && !(faultless(s.Then, visible) && faultless(s.Else, visible)) {
			return false
		}
	}
	return f.Code == api.OK
}

// with returns statements with another one in some place, also within blocks.
func with(pick picker, l []api.Stmt, s api.Stmt) []api.Stmt {
	l = slices.Clone(l)
	i := pick(len(l) + 1)
	if i < len(l) && l[i].Kind == api.StmtOptional && pick(3) > 0 {
		l[i].Then = with(pick, l[i].Then, s)
		return l
	}
	return slices.Insert(l, i, s)
}

// P10.7: a requirement of something that a module without a fault does not mention changes nothing.
func TestFurtherRequirement(t *testing.T) {
	count := 0
	for seed := range 5000 {
		l, pick := random(t, seed), newPicker(seed+1)
		if scope.Check(api.Module{Stmts: l}).Code != api.OK {
			continue
		}
		count++
		for _, src := range []string{"require type new;", "require attribute new, newer;", "require role new;", "require user new;", "require bool new;", "require sensitivity new;", "require category new;", "require class new { p };"} {
			checkFault(t, with(pick, l, parsed(t, src)[0]), api.Fault{})
		}
	}
	if count < 100 {
		t.Errorf("only %d modules without a fault", count)
	}
}

// randomSymbols returns symbols of few names.
func randomSymbols(pick picker, count int) []api.Symbol {
	var l []api.Symbol
	for range count {
		s := api.Symbol{Kind: pick(5), Name: pick.word("a b object_r"), Required: pick(2) == 0, Pos: api.Pos{Line: pick(9), Col: 1}}
		for range pick(4) {
			s.Perms = append(s.Perms, pick.word("p q r"))
		}
		l = append(l, s)
	}
	return l
}

// P10.5, P10.7: what is missing becomes no more if more is there, and nothing is missing if everything is declared.
func TestMissingOfMore(t *testing.T) {
	for seed := range 5000 {
		pick := newPicker(seed)
		need, have := randomSymbols(pick, pick(6)), randomSymbols(pick, pick(12))
		more := slices.Concat(have, randomSymbols(pick, 3))
		old := [2]string{spelled(need), spelled(have)}
		missing, fewer := scope.Missing(need, have), scope.Missing(need, more)
		if spelled(missing) != spelled(modelMissing(need, have)) || spelled(fewer) != spelled(modelMissing(need, more)) {
			t.Fatalf("Missing(%s; %s): got %s, with more %s", old[0], old[1], spelled(missing), spelled(fewer))
		}
		for _, s := range fewer {
			if !slices.ContainsFunc(missing, func(m api.Symbol) bool {
				return m.Kind == s.Kind && m.Name == s.Name && m.Pos == s.Pos && !slices.ContainsFunc(s.Perms, func(p string) bool { return !slices.Contains(m.Perms, p) })
			}) {
				t.Errorf("Missing(%s; %s) grows with %s", old[0], old[1], spelled([]api.Symbol{s}))
			}
		}
		all := slices.Clone(have)
		for _, s := range need {
			s.Required = false
			all = append(all, s)
		}
		if got := scope.Missing(need, all); len(got) != 0 {
			t.Errorf("Missing of what is declared: got %s", spelled(got))
		}
		for _, m := range slices.Concat(missing, fewer) {
			clear(m.Perms)
		}
		if now := [2]string{spelled(need), spelled(have)}; now != old {
			t.Errorf("symbols are changed: %v, %v", old, now)
		}
	}
}

// unplaced returns symbols without positions.
func unplaced(l []api.Symbol) []api.Symbol {
	l = slices.Clone(l)
	for i := range l {
		l[i].Pos = api.Pos{}
	}
	return l
}

// P10.8: a module that is printed and parsed again has the same symbols, uses and fault, apart from positions.
func TestPrinted(t *testing.T) {
	for seed := range 5000 {
		m := api.Module{Name: "m", Stmts: random(t, seed)}
		src, code := printer.Module(m)
		back, f := syntax.Parse(src)
		if code != api.OK || f.Code != api.OK {
			t.Fatalf("%v is not printed: %v, %v", m, code, f)
		}
		symbols, f1 := scope.Symbols(m)
		again, f2 := scope.Symbols(back)
		check1, check2 := scope.Check(m), scope.Check(back)
		if !reflect.DeepEqual(unplaced(symbols), unplaced(again)) || !reflect.DeepEqual(unplaced(scope.Uses(m.Stmts)), unplaced(scope.Uses(back.Stmts))) {
			t.Errorf("%s: got %s, and %s", src, spelled(symbols), spelled(again))
		}
		if f1.Code != f2.Code || f1.Name != f2.Name || check1.Code != check2.Code || check1.Name != check2.Name {
			t.Errorf("%s: the faults %v, %v and %v, %v", src, f1, f2, check1, check2)
		}
	}
}

// Results share no memory with arguments, nor with each other.
func TestMemory(t *testing.T) {
	const src = "class c { p q }; require class d { p }; require class d { q }; allow a a : { c d } { p q }; if v { allow a b : { c d } { r s }; }"
	l := parsed(t, src)
	symbols, _ := scope.Block(l)
	uses := scope.Uses(l)
	before := spelled(symbols) + spelled(uses)
	for i := range symbols {
		symbols[i].Perms = append(symbols[i].Perms, "new")[:len(symbols[i].Perms)]
	}
	for i := range uses {
		uses[i].Perms = append(uses[i].Perms, "new")[:len(uses[i].Perms)]
	}
	if now := spelled(symbols) + spelled(uses); now != before {
		t.Errorf("results share memory: %s, %s", before, now)
	}
	for _, s := range slices.Concat(symbols, uses) {
		clear(s.Perms)
	}
	again, _ := scope.Block(l)
	if now := spelled(again) + spelled(scope.Uses(l)); now != before || !printer.SameStatements(l, parsed(t, src)) {
		t.Errorf("results share memory with statements: %s, %s", before, now)
	}
}
