package compiler_test

import (
	"math"
	"reflect"
	"slices"
	"testing"

	"accesscontrol/api"
	"accesscontrol/compiler"
)

// lists is how many lists a policy has.
const lists = 17

// full is a policy with two elements in each list, which need not be valid. Each call returns new memory.
func full() api.Policy {
	var p api.Policy
	v := reflect.ValueOf(&p).Elem()
	fill(v, 3)
	return p
}

// fill gives all fields values other than zero, and lists two elements, as far as the levels reach.
func fill(v reflect.Value, levels int) {
	switch v.Kind() {
	case reflect.Struct:
		for i := range v.NumField() {
			fill(v.Field(i), levels)
		}
	case reflect.Slice:
		if levels > 0 {
			v.Set(reflect.MakeSlice(v.Type(), 2, 2))
			fill(v.Index(0), levels-1)
			fill(v.Index(1), levels-1)
		}
	case reflect.Array:
		for i := range v.Len() {
			fill(v.Index(i), levels)
		}
	case reflect.String:
		v.SetString("a")
	case reflect.Bool:
		v.SetBool(true)
	case reflect.Int:
		v.SetInt(1)
	default:
		v.SetUint(1)
	}
}

// eachChange changes each value within v, one after the other, and calls a function while it is changed. Lists become shorter and longer, too.
func eachChange(v reflect.Value, path string, do func(path string)) {
	old := reflect.New(v.Type()).Elem()
	old.Set(v)
	switch v.Kind() {
	case reflect.Struct:
		for i := range v.NumField() {
			eachChange(v.Field(i), path+"."+v.Type().Field(i).Name, do)
		}
		return
	case reflect.Slice:
		for i := range v.Len() {
			eachChange(v.Index(i), path+"[]", do)
		}
		v.Set(reflect.Append(old.Slice3(0, old.Len(), old.Len()), reflect.Zero(v.Type().Elem())))
		do(path + " with one more")
		v.Set(old)
		if v.Len() == 0 {
			return
		}
		v.Set(old.Slice(0, v.Len()-1))
	case reflect.Array:
		for i := range v.Len() {
			eachChange(v.Index(i), path+"[]", do)
		}
		return
	case reflect.String:
		v.SetString(v.String() + "b")
	case reflect.Bool:
		v.SetBool(!v.Bool())
	case reflect.Int:
		v.SetInt(v.Int() + 1)
	default:
		v.SetUint(v.Uint() + 1)
	}
	do(path)
	v.Set(old)
}

// P23.4: policies are equal exactly if all fields are.
func TestEqual(t *testing.T) {
	p, changes := full(), 0
	if !compiler.Equal(p, full()) || !compiler.Equal(p, p) || !compiler.Equal(api.Policy{}, api.Policy{}) {
		t.Error("equal policies are not")
	}
	eachChange(reflect.ValueOf(&p).Elem(), "", func(path string) {
		changes++
		if q := full(); compiler.Equal(p, q) || compiler.Equal(q, p) {
			t.Errorf("policies are equal that differ in %s", path)
		}
	})
	if changes < 200 || !compiler.Equal(p, full()) {
		t.Errorf("%d changes", changes)
	}
}

// P23.4: the order of elements is a difference.
func TestEqualOrder(t *testing.T) {
	p := compiled(t, small)
	v := reflect.ValueOf(&p).Elem()
	for i := range v.NumField() {
		q := compiled(t, small)
		l := reflect.ValueOf(&q).Elem().Field(i)
		if l.Len() < 2 {
			continue
		}
		reflect.Swapper(l.Interface())(0, 1)
		if same(l.Index(0).Interface(), l.Index(1).Interface()) != compiler.Equal(p, q) {
			t.Errorf("%s: got %v", v.Type().Field(i).Name, compiler.Equal(p, q))
		}
	}
}

// P23.4: nil and empty lists are equal, also those within elements.
func TestEqualEmpty(t *testing.T) {
	p := api.Policy{
		Classes: []api.Class{{}}, Types: []api.Type{{}}, Conds: []api.Expr{{Kids: []api.Expr{{}}}}, Constraints: []api.Constraint{{}},
	}
	q := p
	q.Classes, q.Types = []api.Class{{Perms: []string{}}}, []api.Type{{Aliases: []string{}}}
	q.Conds = []api.Expr{{Names: []string{}, Kids: []api.Expr{{Names: []string{}, Kids: []api.Expr{}}}}}
	q.Constraints = []api.Constraint{{Expr: api.Expr{Names: []string{}, Kids: []api.Expr{}}}}
	v := reflect.ValueOf(&q).Elem()
	for i := range v.NumField() {
		if v.Field(i).IsNil() {
			v.Field(i).Set(reflect.MakeSlice(v.Field(i).Type(), 0, 1))
		}
	}
	if !compiler.Equal(p, q) || !compiler.Equal(q, p) {
		t.Error("nil and empty lists differ")
	}
}

// P23.5: the sum of the lengths of all lists.
func TestSize(t *testing.T) {
	if n := compiler.Size(api.Policy{}); n != 0 {
		t.Errorf("got %d", n)
	}
	if n := compiler.Size(full()); n != 2*lists {
		t.Errorf("got %d", n)
	}
	var p api.Policy
	v := reflect.ValueOf(&p).Elem()
	if v.NumField() != lists {
		t.Fatalf("a policy has %d lists", v.NumField())
	}
	want := 0
	for i := range lists {
		v.Field(i).Set(reflect.MakeSlice(v.Field(i).Type(), 1<<i, 1<<i))
		want += 1 << i
		if n := compiler.Size(p); n != want {
			t.Errorf("with %s: got %d, want %d", v.Type().Field(i).Name, n, want)
		}
	}
}

// P23.4, P23.5: any policies.
func TestAnyPolicies(t *testing.T) {
	deep := func() api.Expr {
		e := api.Expr{A: math.MinInt}
		for range 60000 {
			e = api.Expr{Op: math.MaxInt, Kids: []api.Expr{e}}
		}
		return e
	}
	p := api.Policy{Conds: []api.Expr{deep()}, Constraints: []api.Constraint{{Expr: deep()}}, Rules: make([]api.Rule, 100000)}
	q := api.Policy{Conds: []api.Expr{deep()}, Constraints: []api.Constraint{{Expr: deep()}}, Rules: slices.Clone(p.Rules)}
	if !compiler.Equal(p, q) || compiler.Size(p) != 100002 {
		t.Errorf("got %v, %d", compiler.Equal(p, q), compiler.Size(p))
	}
	q.Rules[99999].Cond = math.MinInt
	if compiler.Equal(p, q) {
		t.Error("different policies are equal")
	}
}
