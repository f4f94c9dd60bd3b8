package printer_test

import (
	"reflect"
	"slices"
	"testing"

	"accesscontrol/api"
	"accesscontrol/printer"
)

// eachChange changes each part of a value in turn, calls, and changes it back. It tells whether only a position changed.
func eachChange(v reflect.Value, position bool, changed func(position bool)) {
	switch v.Kind() {
	case reflect.Int:
		v.SetInt(v.Int() + 1)
		changed(position)
		v.SetInt(v.Int() - 1)
	case reflect.Uint64:
		v.SetUint(v.Uint() + 1)
		changed(position)
		v.SetUint(v.Uint() - 1)
	case reflect.Bool:
		v.SetBool(!v.Bool())
		changed(position)
		v.SetBool(!v.Bool())
	case reflect.String:
		old := v.String()
		v.SetString(old + "x")
		changed(position)
		v.SetString(old)
	case reflect.Struct:
		for i := range v.NumField() {
			eachChange(v.Field(i), position || v.Type() == reflect.TypeFor[api.Pos](), changed)
		}
	case reflect.Array:
		for i := range v.Len() {
			eachChange(v.Index(i), position, changed)
		}
	case reflect.Slice:
		eachLength(v, changed)
		for i := range v.Len() {
			eachChange(v.Index(i), position, changed)
		}
	}
}

// eachLength makes a slice longer, and shorter.
func eachLength(v reflect.Value, changed func(position bool)) {
	old := reflect.ValueOf(v.Interface())
	v.Set(reflect.Append(old.Slice3(0, old.Len(), old.Len()), reflect.Zero(v.Type().Elem())))
	changed(false)
	if old.Len() > 0 {
		v.Set(old.Slice(0, old.Len()-1))
		changed(false)
	}
	v.Set(old)
}

// full returns a statement in which each field has a value.
func full(inner ...api.Stmt) api.Stmt {
	set := api.NameSet{All: true, Names: []string{"a", "b"}, Except: []string{"c"}}
	level := api.LevelText{Sens: "s0", Cats: []api.Span{{From: "a", To: "b"}, {From: "c"}}}
	span := api.RangeText{Low: level, High: level}
	return api.Stmt{Kind: 99, Op: -7, Pos: api.Pos{Line: 3, Col: 4}, Name: "n", Result: "r", Text: "t", List: []string{"x", "y"}, Aliases: []string{"z"}, Source: set, Target: set, Class: set, Perms: set,
		Cond: api.Expr{Op: 8, A: 1, Rel: 2, B: 3, Names: []string{"a"}, Set: api.Set{1, 2, 3, 4}, Kids: []api.Expr{in(1, "a"), not(boolean("x"))}}, Level: level, Range: span,
		Context: api.ContextText{User: "u", Role: "r", Type: "t", Range: span}, Value: true, Then: slices.Clone(inner), Else: slices.Clone(inner)}
}

// P8.4: statements are the same exactly if all fields are equal, also those of nested ones, apart from positions.
func TestSame(t *testing.T) {
	changes, positions := 0, 0
	for _, l := range [][]api.Stmt{{full(full(), api.Stmt{}), full(full(full()))}, {{}}, {named()[4].s, rules()[5].s, others()[len(others())-1].s}} {
		other := cloned(l)
		if !printer.SameStatements(l, other) || !printer.SameStatements(l, l) {
			t.Errorf("%s is not the same as itself", brief(l))
		}
		eachChange(reflect.ValueOf(&other).Elem(), false, func(position bool) {
			changes++
			if position {
				positions++
			}
			a, b := api.Module{Name: "m", Version: 1, Stmts: l}, api.Module{Name: "m", Version: 1, Stmts: other}
			for i, same := range []bool{printer.SameStatements(l, other), printer.SameStatements(other, l), printer.Same(a, b), printer.Same(b, a)} {
				if same != position {
					t.Errorf("%d: %s and %s: got %v", i, brief(l), brief(other), same)
				}
			}
		})
		if !reflect.DeepEqual(l, other) {
			t.Fatal("a change was not undone")
		}
	}
	if changes < 500 || positions < 16 {
		t.Errorf("only %d changes, %d of them positions", changes, positions)
	}
}

// P8.4: all samples differ from each other.
func TestSameOfSamples(t *testing.T) {
	for i, x := range samples() {
		for j, y := range samples() {
			x.s.Pos = api.Pos{Line: i, Col: j}
			if got := printer.SameStatements([]api.Stmt{x.s}, []api.Stmt{y.s}); got != (i == j) {
				t.Errorf("%q and %q: got %v", x.src, y.src, got)
			}
		}
	}
}

// P8.4: modules, with names, versions and statements that no source has.
func TestSameModules(t *testing.T) {
	a, b := api.Stmt{Kind: -1}, api.Stmt{Kind: 2}
	modules := []api.Module{{}, {Name: "m"}, {Name: "if"}, {Version: -1}, {Version: 10000}, {Stmts: []api.Stmt{{}}}, {Stmts: []api.Stmt{a}}, {Stmts: []api.Stmt{a, a}}, {Stmts: []api.Stmt{a, b}}, {Stmts: []api.Stmt{b, a}},
		{Stmts: []api.Stmt{{Then: []api.Stmt{a}}}}, {Stmts: []api.Stmt{{Else: []api.Stmt{a}}}}, {Stmts: []api.Stmt{{Then: []api.Stmt{{}}}}}, {Stmts: []api.Stmt{{Then: []api.Stmt{a}}, b}}}
	for i, x := range modules {
		for j, y := range modules {
			y.Stmts = cloned(y.Stmts)
			if got := printer.Same(x, y); got != (i == j) {
				t.Errorf("Same(%s, %s): got %v", brief(x), brief(y), got)
			}
		}
	}
	if !printer.Same(api.Module{Stmts: []api.Stmt{}}, api.Module{}) || !printer.SameStatements(nil, []api.Stmt{}) {
		t.Error("nil and empty lists are not the same")
	}
}

// P8.4: statements with many levels, and many statements.
func TestSameOfLarge(t *testing.T) {
	deep := func(name string) []api.Stmt {
		l := []api.Stmt{{Name: name}}
		for range 1<<16 - 1 {
			l = []api.Stmt{{Then: l}}
		}
		return l
	}
	if !printer.SameStatements(deep("a"), deep("a")) || printer.SameStatements(deep("a"), deep("b")) || printer.SameStatements(deep("a"), deep("a")[0].Then) {
		t.Error("statements with many levels")
	}
	wide := slices.Repeat([]api.Stmt{full()}, 1<<14)
	other := slices.Clone(wide)
	if !printer.SameStatements(wide, other) {
		t.Error("many statements are not the same")
	}
	other[1<<14-1].Value = false
	if printer.SameStatements(wide, other) {
		t.Error("many statements of which one differs are the same")
	}
	if code := printer.Check(api.Module{Name: "m", Stmts: deep("a")}); code != api.ErrLong {
		t.Errorf("Check of many levels: got %v", code)
	}
	checkStatement(t, deep("a")[0], 0, "", api.ErrLong)
}
