package optional_test

import (
	"reflect"
	"slices"
	"testing"

	"accesscontrol/api"
	"accesscontrol/optional"
	"accesscontrol/scope"
)

// P12.1, P12.2: random modules.
func TestModel(t *testing.T) {
	faulty, rounds, enabled, disabled := 0, 0, 0, 0
	for seed := range 8000 {
		l := random(t, seed)
		if f := modelFault(l); f.Code != api.OK {
			checkFault(t, l, f)
			faulty++
			continue
		}
		all, n := modelChoice(l)
		rounds = max(rounds, n)
		want := modelEnabled(all)
		checkEnabled(t, l, marks(want))
		flat := slices.Clone(l)
		for i, m := range l {
			flat[i].Stmts = modelFlat(m.Stmts, all[i])
			if got := optional.Blocks(m); got != len(want[i]) {
				t.Errorf("Blocks(%s): got %d, want %d", brief(m), got, len(want[i]))
			}
			for _, is := range want[i] {
				if is {
					enabled++
				} else {
					disabled++
				}
			}
		}
		checkFlat(t, l, flat)
		if !slices.EqualFunc(l, random(t, seed), sameWithPositions) {
			t.Errorf("the modules are changed: %s", brief(l))
		}
		if t.Failed() {
			return
		}
	}
	if faulty < 100 || rounds < 4 || enabled < 1000 || disabled < 1000 {
		t.Errorf("random modules: %d with faults, at most %d rounds, %d blocks enabled, %d not", faulty, rounds, enabled, disabled)
	}
}

// P12.2, P12.5: flat modules have no blocks, and stay as they are.
func TestFlatModules(t *testing.T) {
	for seed := range 4000 {
		flat, f := optional.Flatten(random(t, seed))
		if f.Code != api.OK {
			continue
		}
		for _, m := range flat {
			if n := optional.Blocks(m); n != 0 {
				t.Errorf("Blocks(%s): got %d", brief(m), n)
			}
		}
		if f := modelFault(flat); f.Code != api.OK { // enabled parts declare the same
			checkFault(t, flat, f)
			continue
		}
		checkFlat(t, flat, flat)
	}
}

// declared returns what statements declare, also if they declare it twice.
func declared(l []api.Stmt) []api.Symbol {
	var all []api.Symbol
	for i := range l {
		symbols, _ := scope.Block(l[i : i+1])
		all = append(all, symbols...)
	}
	return all
}

// P12.4: the requirements of enabled parts Then are met by the flat modules; a present block that is not enabled has requirements.
func TestRequirementsAreMet(t *testing.T) {
	for seed := range 4000 {
		l := random(t, seed)
		enabled, f := optional.Enabled(l)
		flat, _ := optional.Flatten(l)
		if f.Code != api.OK {
			continue
		}
		var there []api.Symbol
		for _, m := range flat {
			there = append(there, declared(m.Stmts)...)
		}
		for i, m := range l {
			checkMet(t, m.Stmts, enabled[i], there)
		}
	}
}

// checkMet checks the requirements of the present blocks in statements, and returns what is enabled of the blocks behind them.
func checkMet(t *testing.T, l []api.Stmt, enabled []bool, there []api.Symbol) []bool {
	t.Helper()
	for _, s := range l {
		if s.Kind != api.StmtOptional {
			continue
		}
		first := enabled[0]
		need, _ := scope.Block(s.Then)
		if missing := scope.Missing(need, there); first && len(missing) > 0 {
			t.Errorf("%s is enabled, but %v is missing", brief(s), missing)
		}
		if !first && !slices.ContainsFunc(need, func(s api.Symbol) bool { return s.Required }) {
			t.Errorf("%s is not enabled, but has no requirements", brief(s))
		}
		inThen := optional.Blocks(api.Module{Stmts: s.Then})
		inElse := optional.Blocks(api.Module{Stmts: s.Else})
		here, behind := enabled[1:1+inThen], enabled[1+inThen+inElse:]
		absent, part := enabled[1+inThen:1+inThen+inElse], s.Then
		if !first {
			here, absent, part = absent, here, s.Else
		}
		checkMet(t, part, here, there)
		if slices.Contains(absent, true) {
			t.Errorf("%s: a block that is not present is enabled", brief(s))
		}
		enabled = behind
	}
	return enabled
}

// P12.3, P12.6: random modules that need each other.
func TestModelOfOrder(t *testing.T) {
	cycles, ordered := 0, 0
	for seed := range 6000 {
		pick := newPicker(seed)
		var sources []string
		for range pick(9) {
			src := ""
			for range pick(3) {
				src += pick.word("type+a; type+b; type+c; type+d; class+k+{+p+}; role+r; attribute+a; bool+a+true;")
			}
			for range 1 + pick(2) {
				src += pick.word("require+type+a; require+type+b; require+type+c; require+type+d; require+class+k+{+q+}; require+role+r; require+attribute+a; require+bool+a; optional+{+require+type+a;+type+d;+}")
			}
			sources = append(sources, src)
		}
		l := modules(t, sources...)
		for i := range l {
			if got, want := optional.Needs(l, i), modelNeeds(l, i); !slices.Equal(got, want) {
				t.Fatalf("Needs(%q, %d): got %v, want %v", sources, i, got, want)
			}
		}
		order, code := optional.Order(l)
		if want, wantCode := modelOrder(l); !slices.Equal(order, want) || code != wantCode {
			t.Fatalf("Order(%q): got %v, %v, want %v, %v", sources, order, code, want, wantCode)
		}
		if code == api.OK {
			ordered++
			checkOrder(t, l, order)
		} else {
			cycles++
			checkCycle(t, l, order)
		}
	}
	if cycles < 100 || ordered < 100 {
		t.Errorf("random modules: %d with cycles, %d without", cycles, ordered)
	}
}

func checkOrder(t *testing.T, l []api.Module, order []int) {
	t.Helper()
	for at, i := range order {
		for _, n := range optional.Needs(l, i) {
			if !slices.Contains(order[:at], n) {
				t.Errorf("Order(%s): %v, but %d needs %d", brief(l), order, i, n)
			}
		}
	}
	if sorted := slices.Compact(slices.Sorted(slices.Values(order))); len(sorted) != len(l) || len(order) != len(l) {
		t.Errorf("Order(%s): got %v", brief(l), order)
	}
}

func checkCycle(t *testing.T, l []api.Module, cycle []int) {
	t.Helper()
	for at, i := range cycle {
		if next := cycle[(at+1)%len(cycle)]; !slices.Contains(optional.Needs(l, i), next) {
			t.Errorf("Order(%s): %v, but %d does not need %d", brief(l), cycle, i, next)
		}
	}
	if sorted := slices.Compact(slices.Sorted(slices.Values(cycle))); len(cycle) < 2 || len(sorted) != len(cycle) {
		t.Errorf("Order(%s): got the cycle %v", brief(l), cycle)
	}
}

// P12.2: Flatten writes to none of its arguments, and its result shares no memory with them, nor with itself.
func TestMemory(t *testing.T) {
	const src = `type a alias { b }, x, y; class k { p q }; user u roles { r } level s:c.d range s:c-s:d.e,f; sid n u:r:a:s:c-s:d;
range_transition { a - b } { a - b } : { k - l } s:c; allow { a - b } { a - b } : { k - l } { p - q }; constrain k p u1 in u && ! t1 in { a b };
if v && w { allow a a : k p; } else { type_change a { a b } : k a; optional { type c; } } optional { type d alias { e }; optional { require role z; } else { require bool v, w; } }`
	both := func() []api.Module {
		m := modules(t, src)[0]
		return []api.Module{m, m}
	}
	l := both()
	flat, f := optional.Flatten(l)
	if f.Code != api.OK {
		t.Fatal(f)
	}
	spoil(reflect.ValueOf(flat[0]))
	if !slices.EqualFunc(l, both(), sameWithPositions) {
		t.Errorf("Flatten shares memory with its argument: %s", brief(l))
	}
	if again, _ := optional.Flatten(both()); !sameWithPositions(flat[1], again[1]) {
		t.Errorf("results of Flatten share memory: %s", brief(flat))
	}
	enabled, _ := optional.Enabled(modules(t, src, src))
	for i := range enabled[0] {
		enabled[0][i] = true
	}
	enabled[0] = append(enabled[0], true)
	if marks(enabled[1:]) != "+-" {
		t.Errorf("Enabled shares memory: %s", marks(enabled))
	}
}

// spoil changes the elements of all slices in a value, also behind their ends.
func spoil(v reflect.Value) {
	switch v.Kind() {
	case reflect.Struct:
		for i := range v.NumField() {
			spoil(v.Field(i))
		}
	case reflect.Array:
		for i := range v.Len() {
			spoil(v.Index(i))
		}
	case reflect.Slice:
		full := v.Slice(0, v.Cap())
		for i := range full.Len() {
			spoil(full.Index(i))
			full.Index(i).SetZero()
		}
	}
}
