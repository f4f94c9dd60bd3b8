package clone_test

import (
	"reflect"
	"testing"

	"accesscontrol/api"
	"accesscontrol/clone"
)

// filled gives all lists within a value two elements, and all else values of its own. Lists of expressions end after some levels.
func filled(v reflect.Value, next *int, levels int) {
	*next++
	switch v.Kind() {
	case reflect.Struct, reflect.Array:
		for _, part := range parts(v) {
			filled(part, next, levels)
		}
	case reflect.Slice:
		if levels == 0 {
			return
		}
		v.Set(reflect.MakeSlice(v.Type(), 2, 5))
		for _, part := range parts(v) {
			filled(part, next, levels-1)
		}
	case reflect.String:
		v.SetString(string(rune('a' + *next%26)))
	case reflect.Bool:
		v.SetBool(*next%2 == 0)
	case reflect.Int:
		v.SetInt(int64(*next))
	default:
		v.SetUint(uint64(*next))
	}
}

// parts returns the fields or elements of a value.
func parts(v reflect.Value) []reflect.Value {
	var l []reflect.Value
	if v.Kind() == reflect.Struct {
		for i := range v.NumField() {
			l = append(l, v.Field(i))
		}
		return l
	}
	for i := range v.Len() {
		l = append(l, v.Index(i))
	}
	return l
}

// scribble changes all memory that a value refers to, also behind its lists.
func scribble(v reflect.Value) {
	switch v.Kind() {
	case reflect.Struct:
		for _, part := range parts(v) {
			scribble(part)
		}
	case reflect.Slice:
		for _, part := range parts(v) {
			scribble(part)
			part.SetZero()
		}
		reflect.Append(v, reflect.Zero(v.Type().Elem()))
	}
}

// policy returns a policy with two elements in all lists.
func policy() api.Policy {
	var p api.Policy
	n := 0
	filled(reflect.ValueOf(&p).Elem(), &n, 5)
	return p
}

// A clone is equal to the policy, and shares no memory with it.
func TestPolicy(t *testing.T) {
	p := policy()
	q := clone.Policy(p)
	if !reflect.DeepEqual(p, q) || len(q.Conds[1].Kids[1].Kids) != 2 || len(q.Types[1].Aliases) != 2 {
		t.Errorf("got %v", q)
	}
	scribble(reflect.ValueOf(q))
	if !reflect.DeepEqual(p, policy()) {
		t.Error("the policy is changed")
	}
	q = clone.Policy(p)
	scribble(reflect.ValueOf(p))
	if !reflect.DeepEqual(q, policy()) {
		t.Error("the clone is changed")
	}
	if q := clone.Policy(api.Policy{}); !reflect.DeepEqual(q, api.Policy{}) {
		t.Errorf("got %v", q)
	}
}

// Lists that share memory in a policy do not share any in its clone.
func TestShared(t *testing.T) {
	names := []string{"a", "b"}
	kids := []api.Expr{{Names: names}, {Names: names}}
	p := api.Policy{Sens: names, Cats: names, Classes: []api.Class{{Perms: names}}, Types: []api.Type{{Aliases: names}}}
	p.Conds = []api.Expr{{Kids: kids, Names: names}, {Kids: kids}}
	p.Constraints = []api.Constraint{{Expr: api.Expr{Kids: kids}}}
	q := clone.Policy(p)
	q.Sens[0] = "changed"
	q.Conds[0].Kids[0].Names[0] = "changed"
	for i, l := range [][]string{q.Cats, q.Classes[0].Perms, q.Types[0].Aliases, q.Conds[0].Names, q.Conds[0].Kids[1].Names, q.Conds[1].Kids[0].Names, q.Constraints[0].Expr.Kids[0].Names, names} {
		if l[0] != "a" {
			t.Errorf("the list %d is changed", i)
		}
	}
}
