package constraint_test

import (
	"math"
	"testing"

	"accesscontrol/api"
	"accesscontrol/boolexp"
	"accesscontrol/constraint"
	"accesscontrol/linker"
)

// P17.7: Compile of Source of an expression that Check accepts is that expression.
func TestBack(t *testing.T) {
	p, accepted := policy(t, base), 0
	for seed := range 5000 {
		pick := newPicker(seed)
		e, validate := pick.junk(5, 3), pick(2) == 0
		if constraint.Check(e, p, validate) != api.OK {
			continue
		}
		accepted++
		checkCompile(t, p, constraint.Source(e, p), validate, e, api.OK)
	}
	if accepted < 1000 {
		t.Errorf("only %d expressions are accepted", accepted)
	}
}

// P17.3, P17.7: what Compile returns is accepted by Check, and keeps its value in the source and back.
func TestCompiledIsAccepted(t *testing.T) {
	p := policy(t, base)
	for seed := range 500 {
		pick := newPicker(seed)
		e, code := constraint.Compile(parsed(t, pick.text(1+pick(6), "123")), p, true)
		if code != api.OK || constraint.Check(e, p, true) != api.OK {
			t.Fatalf("Compile: got %s, %v", brief(e), code)
		}
		checkCompile(t, p, constraint.Source(e, p), true, e, api.OK)
	}
}

// changed returns the case with other values of an attribute.
func changed(c api.Case, attr int, by int) api.Case {
	x := []*api.Context{&c.First, &c.Second, &c.Third}[attr/5]
	switch attr % 5 {
	case api.AttrUser:
		x.User += by
	case api.AttrRole:
		x.Role += by
	case api.AttrType:
		x.Type += by
	case api.AttrLow:
		x.Range.Low = api.Level{Sens: x.Range.Low.Sens + by, Cats: x.Range.Low.Cats ^ uint64(by)}
	default:
		x.Range.High = api.Level{Sens: x.Range.High.Sens + by, Cats: x.Range.High.Cats ^ uint64(by)}
	}
	return c
}

// P17.7: the value does not depend on an attribute that is not mentioned. It can depend on each other one.
func TestAttributesThatMatter(t *testing.T) {
	mattered := map[int]int{}
	for seed := range 3000 {
		pick := newPicker(seed)
		e, c := pick.expr(1+pick(4), 3), pick.contexts()
		for attr := range 15 {
			for _, by := range []int{-2, -1, 1, 2, math.MaxInt} {
				differs := constraint.Eval(e, c) != constraint.Eval(e, changed(c, attr, by))
				if differs && !constraint.Mentions(e, attr) {
					t.Errorf("the value of %s depends on %d", brief(e), attr)
				}
				if differs {
					mattered[attr]++
				}
			}
		}
	}
	for attr := range 15 {
		if mattered[attr] < 100 {
			t.Errorf("the attribute %d mattered %d times", attr, mattered[attr])
		}
	}
}

// P17.7: what is denied are permissions of the class, and more constraints deny more.
func TestDeniedGrows(t *testing.T) {
	grown := 0
	for seed := range 300 {
		pick := newPicker(seed)
		p := policy(t, base)
		for range 1 + pick(12) {
			x := api.Constraint{Class: pick(2), Expr: pick.expr(4, 2)}
			x.Perms = []uint32{uint32(1 + pick(7)), uint32(1 + pick(3))}[x.Class]
			p.Constraints = append(p.Constraints, x)
		}
		if code := linker.Check(p); code != api.OK {
			t.Fatalf("got %v", code)
		}
		c, class := pick.contexts(), pick(2)
		all, before, number := p.Constraints, uint32(0), -1
		for n := range len(all) + 1 {
			p.Constraints = all[:n]
			denied, first := constraint.Denied(p, class, c.First, c.Second)
			if denied>>len(p.Classes[class].Perms) != 0 || before&^denied != 0 || (first == -1) != (denied == 0) || number >= 0 && first != number {
				t.Errorf("%d constraints: got %b, %d after %b, %d", n, denied, first, before, number)
			}
			if before != 0 && denied != before {
				grown++
			}
			before, number = denied, first
		}
	}
	if grown < 50 {
		t.Errorf("only %d constraints deny more", grown)
	}
}

// P1: any policies end without a panic.
func TestAnyPolicy(t *testing.T) {
	huge := make([]api.Type, 400)
	huge[300] = api.Type{Name: "far", Aliases: []string{"alias"}}
	self := []api.Expr{and(holds(), holds())}
	self[0].Kids[1] = self[0]
	for _, p := range []api.Policy{
		{},
		{Types: huge, Users: make([]api.User, 400), Roles: make([]api.Role, 400), Attrs: []api.Attr{{Name: "x", Types: api.Set{3: 1 << 63}}}},
		{Constraints: []api.Constraint{{Expr: op(0)}, {Class: -1, Perms: 9, Expr: nested(holds(), 60000)}, {Validate: true}, {Expr: self[0]}}},
	} {
		for _, e := range []api.Expr{{}, self[0], not(self[0]), in(2, api.Set{math.MaxUint64, 0, 0, 1 << 63}), in(0, set(0)), named(2, "far", "alias", "x"), named(0, ""), named(1, ""), nested(op(7), 60000)} {
			for _, validate := range []bool{false, true} {
				constraint.Check(e, p, validate)
				constraint.Compile(e, p, validate)
			}
			constraint.Source(e, p)
			constraint.Eval(e, api.Case{})
		}
		for class := -2; class < 3; class++ {
			constraint.Denied(p, class, api.Context{}, api.Context{})
			constraint.Valid(p, class, api.Context{}, api.Context{}, api.Context{})
		}
	}
}

// P17.2, P17.5, P17.6: nothing is written to an expression or a policy.
func TestArgumentsAreKept(t *testing.T) {
	p := policy(t, base+"constrain file read t1 in x || u1 == u2; validatetrans file t3 in x;")
	before := clone(p.Constraints[0].Expr)
	c := api.Context{Type: 2}
	constraint.Denied(p, 0, c, c)
	constraint.Valid(p, 0, c, c, c)
	constraint.Eval(p.Constraints[0].Expr, api.Case{})
	constraint.Mentions(p.Constraints[0].Expr, 2)
	if !boolexp.Same(before, p.Constraints[0].Expr) || linker.Check(p) != api.OK {
		t.Errorf("the policy was changed")
	}
}
