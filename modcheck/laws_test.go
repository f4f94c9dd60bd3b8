package modcheck_test

import (
	"reflect"
	"slices"
	"testing"

	"accesscontrol/api"
	"accesscontrol/modcheck"
	"accesscontrol/nameset"
	"accesscontrol/printer"
	"accesscontrol/scope"
)

// random returns a module with random statements, behind or ahead of given ones.
func random(t *testing.T, seed int) api.Module {
	pick := newPicker(seed)
	src := pick.source(pick(5), 3)
	if pick(8) == 0 {
		return module(t, src+given)
	}
	return module(t, given+src)
}

// P11.3 to P11.5: random modules. No function changes its argument.
func TestModel(t *testing.T) {
	codes, warnings, unused := map[api.Errno]int{}, map[api.Errno]int{}, 0
	for seed := range 4000 {
		m := random(t, seed)
		want := modelCheck(m)
		checkModule(t, m, want)
		codes[want.Code]++
		list := modelWarnings(m)
		checkWarnings(t, m, list...)
		for _, w := range list {
			warnings[w.Code]++
		}
		symbols := modelUnused(m)
		if got := modcheck.Unused(m); !(len(got) == 0 && len(symbols) == 0) && !reflect.DeepEqual(got, symbols) {
			t.Errorf("Unused(%s): got %v, want %v", brief(m), got, symbols)
		}
		unused += min(1, len(symbols))
		if !printer.Same(m, random(t, seed)) {
			t.Errorf("the module is changed: %s", brief(m))
		}
		if t.Failed() {
			return
		}
	}
	for _, code := range []api.Errno{api.OK, api.ErrKind, api.ErrTwice, api.ErrScope, api.ErrLevel} {
		if codes[code] < 40 {
			t.Errorf("only %d random modules with the fault %v", codes[code], code)
		}
	}
	for _, code := range []api.Errno{api.ErrState, api.ErrNone, api.ErrTwice} {
		if warnings[code] < 40 {
			t.Errorf("only %d warnings %v", warnings[code], code)
		}
	}
	if unused < 40 {
		t.Errorf("only %d modules with unused symbols", unused)
	}
}

// P11.2: random statements, for symbols that are visible.
func TestModelOfStatements(t *testing.T) {
	for seed := range 8000 {
		pick := newPicker(seed)
		s := parsed(t, pick.other())[0]
		visible := symbols(t, pick.word("sensitivity+s;+sensitivity+t;+category+g;+category+h; sensitivity+t;+category+i;+category+h;+category+g;+sensitivity+s; require+sensitivity+s;+sensitivity+t;+category+g; type+s; sensitivity+r;+sensitivity+s;+sensitivity+t;+category+g;+require+category+h;+category+i;"))
		if f := modcheck.Statement(s, visible); f != modelStatement(s, visible) {
			t.Fatalf("Statement(%s, %v): got %v, want %v", brief(s), visible, f, modelStatement(s, visible))
		}
	}
}

// without returns all lists of statements in which one statement that declares and requires nothing is missing, where no block becomes empty.
func without(l []api.Stmt, least int) [][]api.Stmt {
	var all [][]api.Stmt
	for i, s := range l {
		if symbols, _ := scope.Block(l[i : i+1]); len(symbols) == 0 && s.Kind != api.StmtRequire && len(l) > least {
			all = append(all, slices.Delete(slices.Clone(l), i, i+1))
		}
		for _, block := range without(s.Then, 1) {
			changed := cloned(l)
			changed[i].Then = block
			all = append(all, changed)
		}
		for _, block := range without(s.Else, 0) {
			changed := cloned(l)
			changed[i].Else = block
			all = append(all, changed)
		}
	}
	return all
}

// P11.6: a module without a fault has none without a statement that declares and requires nothing.
func TestWithoutStatement(t *testing.T) {
	count := 0
	for seed := range 2000 {
		m := random(t, seed)
		if modcheck.Check(m).Code != api.OK {
			continue
		}
		for _, l := range without(m.Stmts, 0) {
			count++
			m.Stmts = l
			checkModule(t, m, api.Fault{})
		}
	}
	if count < 500 {
		t.Errorf("only %d modules", count)
	}
}

// P11.6: Check finds no fault exactly if the three checks find none.
func TestThreeChecks(t *testing.T) {
	for seed := range 2000 {
		m := random(t, seed)
		if got := modcheck.Check(m).Code == api.OK; got != isFaultless(m) {
			t.Errorf("Check(%s): got %v, but the three checks find %v", brief(m), got, !got)
		}
	}
}

// P11.6: warnings, and faults, do not depend on the names of modules.
func TestNamesOfModules(t *testing.T) {
	for seed := range 1000 {
		m := random(t, seed)
		warnings, f, unused := modcheck.Warnings(m), modcheck.Check(m), modcheck.Unused(m)
		m.Name = "a"
		checkWarnings(t, m, warnings...)
		checkModule(t, m, f)
		if got := modcheck.Unused(m); !reflect.DeepEqual(got, unused) {
			t.Errorf("Unused(%s): got %v, want %v", brief(m), got, unused)
		}
	}
}

// P11.5: a set without self is certainly empty exactly if it means nothing where its names mean different types, and there is another type.
func TestEmptyMeaning(t *testing.T) {
	env := api.Env{Types: []api.Type{{Name: "a"}, {Name: "b"}, {Name: "x"}, {Name: "other"}}}
	for seed := range 2000 {
		pick := newPicker(seed)
		s := parsed(t, "permissive "+pick.types()+";")[0]
		set, code := nameset.Types(s.Source, env)
		if code != api.OK {
			t.Fatalf("Types(%v): got %v", s.Source, code)
		}
		warns := len(modcheck.Warnings(api.Module{Name: "m", Stmts: []api.Stmt{s}})) > 0
		if warns != (set == api.Set{}) {
			t.Errorf("Warnings(%v): got %v", s.Source, warns)
		}
	}
}
