package linker_test

import (
	"math"
	"slices"
	"strings"
	"testing"

	"accesscontrol/api"
	"accesscontrol/linker"
)

// valid returns a valid policy that has something in each list. Its types are a, b (alias d), c, its roles object_r, r1, r2, r3.
func valid(t *testing.T) api.Policy {
	t.Helper()
	return policy(t, base+`roleallow r1 { r2 r3 };
allow a { b self } : file read; neverallow a self : dir add; if p { dontaudit x c : file { write execute }; } else { auditallow a a : dir *; }
type_transition a b : file c "n"; if p == q { type_change a b : dir a; type_member a b : dir a; }
role_transition r1 a : file r2;
range_transition a b : file s0-s1:c0;
constrain file read u1 == u2 || r1 in { r1 object_r }; validatetrans dir !(l1 dom l3) && t3 in x;
sid kernel u:r1:a:s0; sid root v:object_r:c:s0-s1;
filecon "/x" any u:object_r:a:s0; filecon "/y" socket u:r2:b:s1:c1;
assert y noflow a b; assert z separate x c;
`)
}

// spoiled is a change of a valid policy, and the error that it has then.
type spoiled struct {
	code  api.Errno
	spoil func(p *api.Policy)
}

func checkSpoiled(t *testing.T, l []spoiled) {
	t.Helper()
	for i, x := range l {
		p := valid(t)
		x.spoil(&p)
		if got := linker.Check(p); got != x.code {
			t.Errorf("%d: got %v, want %v", i, got, x.code)
		}
	}
}

// P13.7: a policy that is valid, the one with the fewest symbols, and some that lack something.
func TestCheck(t *testing.T) {
	p := valid(t)
	if code := linker.Check(p); code != api.OK {
		t.Errorf("got %v", code)
	}
	if code := linker.Check(api.Policy{Roles: []api.Role{{Name: "object_r"}}}); code != api.OK {
		t.Errorf("got %v", code)
	}
	checkSpoiled(t, []spoiled{
		{api.OK, func(p *api.Policy) {}},
		{api.ErrRange, func(p *api.Policy) { p.Classes = nil }},
		{api.ErrRange, func(p *api.Policy) { p.Types = nil }},
		{api.OK, func(p *api.Policy) { p.Attrs = nil }},
		{api.ErrArg, func(p *api.Policy) { p.Roles = nil }},
		{api.ErrRange, func(p *api.Policy) { p.Users = nil }},
		{api.ErrRange, func(p *api.Policy) { p.Bools = nil }},
		{api.ErrLevel, func(p *api.Policy) { p.Sens = nil }},
		{api.ErrLevel, func(p *api.Policy) { p.Cats = nil }},
		{api.ErrRange, func(p *api.Policy) { p.Conds = nil }},
		{api.OK, func(p *api.Policy) { p.Rules, p.Trans, p.Constraints, p.Asserts = nil, nil, nil, nil }},
		{api.OK, func(p *api.Policy) { p.RoleTrans, p.Ranges, p.Sids, p.Files = nil, []api.RangeTrans{}, nil, nil }},
	})
}

// P13.7: names of each list.
func TestCheckNames(t *testing.T) {
	lists := []func(p *api.Policy, name string){
		func(p *api.Policy, name string) {
			p.Classes = append(p.Classes, api.Class{Name: name, Perms: []string{"read"}})
		},
		func(p *api.Policy, name string) { p.Types = append(p.Types, api.Type{Name: name}) },
		func(p *api.Policy, name string) {
			p.Types = append(p.Types, api.Type{Name: "other", Aliases: []string{"one", name}})
		},
		func(p *api.Policy, name string) { p.Attrs = append(p.Attrs, api.Attr{Name: name, Types: set(0)}) },
		func(p *api.Policy, name string) { p.Roles = append(p.Roles, api.Role{Name: name}) },
		func(p *api.Policy, name string) { p.Users = append(p.Users, api.User{Name: name}) },
		func(p *api.Policy, name string) { p.Bools = append(p.Bools, api.Bool{Name: name}) },
		func(p *api.Policy, name string) { p.Sens = append(p.Sens, name) },
		func(p *api.Policy, name string) { p.Cats = append(p.Cats, name) },
		func(p *api.Policy, name string) { p.Sids = append(p.Sids, api.InitialSid{Name: name}) },
		func(p *api.Policy, name string) {
			p.Asserts = append(p.Asserts, api.Assert{Name: name, Kind: 1, Source: set(0), Target: set(0)})
		},
	}
	twice := []string{"dir", "a b c d x none", "a b c d x none other one", "a b c d x none", "object_r r1 r3", "u v", "p q", "s0 s1", "c0 c2", "kernel root", "y z"}
	for i, add := range lists {
		for _, name := range []string{"", "1", "a-b", "type", "self", "é", strings.Repeat("n", api.MaxName+1)} {
			checkSpoiled(t, []spoiled{{api.ErrName, func(p *api.Policy) { add(p, name) }}})
		}
		for _, name := range strings.Fields(twice[i]) {
			checkSpoiled(t, []spoiled{{api.ErrTwice, func(p *api.Policy) { add(p, name) }}})
		}
		for _, name := range []string{"new", "_", "read", "link", "u1", strings.Repeat("n", api.MaxName)} {
			checkSpoiled(t, []spoiled{{api.OK, func(p *api.Policy) { add(p, name) }}})
		}
	}
	checkSpoiled(t, []spoiled{
		{api.OK, func(p *api.Policy) { p.Types[2].Name = "file" }},
		{api.OK, func(p *api.Policy) { p.Types[2].Aliases = []string{"u", "r1"} }},
		{api.ErrTwice, func(p *api.Policy) { p.Types[2].Aliases = []string{"c"} }},
		{api.ErrTwice, func(p *api.Policy) { p.Types[2].Aliases = []string{"e", "f", "e"} }},
		{api.ErrTwice, func(p *api.Policy) { p.Types[0].Aliases = []string{"b"} }},
		{api.ErrTwice, func(p *api.Policy) { p.Types[0].Aliases = []string{"x"} }},
		{api.ErrName, func(p *api.Policy) { p.Types[0].Aliases = []string{"e", "if", "e"} }},
		{api.ErrTwice, func(p *api.Policy) { p.Types[0].Aliases = []string{"e", "e", "if"} }},
		{api.ErrName, func(p *api.Policy) { p.Bools[0].Name, p.Bools[1].Name = "if", "if" }},
	})
}

// P13.7: permissions of classes, attributes, roles and users.
func TestCheckSymbols(t *testing.T) {
	perms := func(l ...string) func(p *api.Policy) { return func(p *api.Policy) { p.Classes[1].Perms = l } }
	checkSpoiled(t, []spoiled{
		{api.OK, perms(append([]string{"read", "add"}, names("p", 30)...)...)},
		{api.ErrLong, perms(append([]string{"read", "add", ""}, names("p", 30)...)...)},
		{api.ErrLong, perms(slices.Repeat([]string{"add"}, 33)...)},
		{api.ErrArg, perms()},
		{api.ErrName, perms("read", "a b", "read")},
		{api.ErrTwice, perms("read", "add", "read", "a b")},
		{api.ErrName, func(p *api.Policy) { p.Classes[1] = api.Class{} }},
		{api.ErrTwice, func(p *api.Policy) { p.Classes[1] = api.Class{Name: "file"} }},

		{api.OK, func(p *api.Policy) { p.Attrs[0].Types = set(0, 1, 2) }},
		{api.ErrRange, func(p *api.Policy) { p.Attrs[0].Types = set(3) }},
		{api.ErrRange, func(p *api.Policy) { p.Attrs[1].Types = api.Set{0, 0, 0, 1 << 63} }},
		{api.ErrTwice, func(p *api.Policy) { p.Attrs[1] = api.Attr{Name: "x", Types: set(3)} }},

		{api.ErrArg, func(p *api.Policy) { p.Roles = p.Roles[1:] }},
		{api.ErrArg, func(p *api.Policy) { p.Roles[0].Name = "" }},
		{api.ErrArg, func(p *api.Policy) { p.Roles[0].Types = set(0) }},
		{api.ErrArg, func(p *api.Policy) { p.Roles[0].Next = set(1) }},
		{api.ErrArg, func(p *api.Policy) { p.Roles[0].Name, p.Roles[1].Name = "r1", "" }},
		{api.ErrTwice, func(p *api.Policy) { p.Roles[2].Name = "object_r" }},
		{api.ErrTwice, func(p *api.Policy) { p.Roles[2] = api.Role{Name: "r1", Types: set(9)} }},
		{api.ErrRange, func(p *api.Policy) { p.Roles[2].Types = set(3) }},
		{api.ErrRange, func(p *api.Policy) { p.Roles[2].Next = set(0) }},
		{api.ErrRange, func(p *api.Policy) { p.Roles[2].Next = set(4) }},
		{api.OK, func(p *api.Policy) { p.Roles[3] = api.Role{Name: "r3", Types: set(0, 1, 2), Next: set(1, 2, 3)} }},

		{api.OK, func(p *api.Policy) { p.Users[1].Roles = set(1, 2, 3) }},
		{api.OK, func(p *api.Policy) { p.Users[1] = api.User{Name: "w"} }},
		{api.ErrRange, func(p *api.Policy) { p.Users[1].Roles = set(0) }},
		{api.ErrRange, func(p *api.Policy) { p.Users[1].Roles = set(4) }},
		{api.ErrRange, func(p *api.Policy) { p.Users[1].Roles, p.Users[1].Default.Sens = set(4), 9 }},
		{api.ErrLevel, func(p *api.Policy) { p.Users[0].Range.High.Sens = 2 }},
		{api.ErrLevel, func(p *api.Policy) { p.Users[0].Range.High.Cats = 8 }},
		{api.ErrLevel, func(p *api.Policy) { p.Users[0].Range.Low.Sens = -1 }},
		{api.ErrLevel, func(p *api.Policy) { p.Users[1].Range.Low, p.Users[1].Default = at(1, 3), at(1, 3) }},
		{api.ErrLevel, func(p *api.Policy) { p.Users[1].Default = at(0, 2) }},
		{api.ErrLevel, func(p *api.Policy) { p.Users[1].Default = at(1, 0) }},
		{api.ErrLevel, func(p *api.Policy) { p.Users[1].Default = at(1, 3) }},
		{api.ErrLevel, func(p *api.Policy) { p.Users[0].Default = at(2, 0) }},
		{api.OK, func(p *api.Policy) { p.Users[0].Default = at(1, 5) }},
		{api.ErrTwice, func(p *api.Policy) { p.Users[1] = api.User{Name: "u", Roles: set(0)} }},
	})
}

// P13.7: lists at their limits, and longer ones. What is too long comes ahead of the errors of elements.
func TestCheckLimits(t *testing.T) {
	fill := func(count int, add func(p *api.Policy, name string)) func(p *api.Policy) {
		return func(p *api.Policy) {
			for _, name := range names("n", count) {
				add(p, name)
			}
		}
	}
	for _, x := range []struct {
		room int
		add  func(p *api.Policy, name string)
	}{
		{30, func(p *api.Policy, name string) {
			p.Classes = append(p.Classes, api.Class{Name: name, Perms: []string{"r"}})
		}},
		{253, func(p *api.Policy, name string) {
			p.Types = append(p.Types, api.Type{Name: name, Aliases: []string{name + "_", name + "__"}})
		}},
		{62, func(p *api.Policy, name string) { p.Attrs = append(p.Attrs, api.Attr{Name: name}) }},
		{28, func(p *api.Policy, name string) { p.Roles = append(p.Roles, api.Role{Name: name}) }},
		{30, func(p *api.Policy, name string) { p.Users = append(p.Users, api.User{Name: name}) }},
		{14, func(p *api.Policy, name string) { p.Bools = append(p.Bools, api.Bool{Name: name}) }},
		{14, func(p *api.Policy, name string) { p.Sens = append(p.Sens, name) }},
		{61, func(p *api.Policy, name string) { p.Cats = append(p.Cats, name) }},
		{62, func(p *api.Policy, name string) { p.Conds = append(p.Conds, p.Conds[0]) }},
		{4092, func(p *api.Policy, name string) { p.Rules = append(p.Rules, p.Rules[0]) }},
		{1021, func(p *api.Policy, name string) { p.Trans = append(p.Trans, p.Trans[0]) }},
		{1023, func(p *api.Policy, name string) { p.RoleTrans = append(p.RoleTrans, p.RoleTrans[0]) }},
		{1023, func(p *api.Policy, name string) { p.Ranges = append(p.Ranges, p.Ranges[0]) }},
		{62, func(p *api.Policy, name string) { p.Constraints = append(p.Constraints, p.Constraints[0]) }},
		{1022, func(p *api.Policy, name string) { p.Sids = append(p.Sids, api.InitialSid{Name: name}) }},
		{254, func(p *api.Policy, name string) { p.Files = append(p.Files, p.Files[0]) }},
		{62, func(p *api.Policy, name string) {
			p.Asserts = append(p.Asserts, api.Assert{Name: name, Kind: 3, Source: set(0), Target: set(0)})
		}},
	} {
		checkSpoiled(t, []spoiled{{api.OK, fill(x.room, x.add)}, {api.ErrLong, fill(x.room+1, x.add)}, {api.ErrLong, fill(x.room+40, x.add)}})
	}
	checkSpoiled(t, []spoiled{
		{api.ErrLong, func(p *api.Policy) { p.Classes = make([]api.Class, 33) }},
		{api.ErrLong, func(p *api.Policy) { p.Types = make([]api.Type, 257) }},
		{api.ErrLong, func(p *api.Policy) { p.Roles = make([]api.Role, 33) }},
		{api.ErrLong, func(p *api.Policy) { p.Conds = make([]api.Expr, 65) }},
		{api.ErrLong, func(p *api.Policy) { p.Rules = make([]api.Rule, 4097) }},
		{api.ErrLong, func(p *api.Policy) { p.Files = make([]api.FileRule, 257) }},
		{api.ErrLong, func(p *api.Policy) {
			p.Types[0].Aliases = nil
			p.Types[1].Aliases = nil
			p.Attrs = make([]api.Attr, 65)
		}},
		{api.OK, func(p *api.Policy) { p.Types[0].Aliases = names("alias", 5000) }},
	})
}

// lists has for each list, in the order of api.Policy, two elements with different errors.
var lists = [][2]spoiled{
	{{api.ErrName, func(p *api.Policy) { p.Classes = append(p.Classes, api.Class{}) }}, {api.ErrArg, func(p *api.Policy) { p.Classes = append(p.Classes, api.Class{Name: "k"}) }}},
	{{api.ErrName, func(p *api.Policy) { p.Types = append(p.Types, api.Type{}) }}, {api.ErrTwice, func(p *api.Policy) { p.Types = append(p.Types, api.Type{Name: "a"}) }}},
	{{api.ErrName, func(p *api.Policy) { p.Attrs = append(p.Attrs, api.Attr{}) }}, {api.ErrRange, func(p *api.Policy) { p.Attrs = append(p.Attrs, api.Attr{Name: "k", Types: set(63)}) }}},
	{{api.ErrName, func(p *api.Policy) { p.Roles = append(p.Roles, api.Role{}) }}, {api.ErrRange, func(p *api.Policy) { p.Roles = append(p.Roles, api.Role{Name: "k", Next: set(0)}) }}},
	{{api.ErrName, func(p *api.Policy) { p.Users = append(p.Users, api.User{}) }}, {api.ErrLevel, func(p *api.Policy) { p.Users = append(p.Users, api.User{Name: "k", Default: at(1, 0)}) }}},
	{{api.ErrName, func(p *api.Policy) { p.Bools = append(p.Bools, api.Bool{}) }}, {api.ErrTwice, func(p *api.Policy) { p.Bools = append(p.Bools, api.Bool{Name: "p"}) }}},
	{{api.ErrName, func(p *api.Policy) { p.Sens = append(p.Sens, "") }}, {api.ErrTwice, func(p *api.Policy) { p.Sens = append(p.Sens, "s1") }}},
	{{api.ErrName, func(p *api.Policy) { p.Cats = append(p.Cats, "") }}, {api.ErrTwice, func(p *api.Policy) { p.Cats = append(p.Cats, "c1") }}},
	{{api.ErrArg, func(p *api.Policy) { p.Conds = append(p.Conds, api.Expr{}) }}, {api.ErrRange, func(p *api.Policy) { p.Conds = append(p.Conds, api.Expr{Op: api.ExprName, A: 16}) }}},
	{{api.ErrKind, func(p *api.Policy) { p.Rules = append(p.Rules, api.Rule{}) }}, {api.ErrArg, func(p *api.Policy) { p.Rules = append(p.Rules, api.Rule{Kind: 1}) }}},
	{{api.ErrKind, func(p *api.Policy) { p.Trans = append(p.Trans, api.Trans{}) }}, {api.ErrArg, func(p *api.Policy) { p.Trans = append(p.Trans, api.Trans{Kind: 1}) }}},
	{{api.ErrRange, func(p *api.Policy) { p.RoleTrans = append(p.RoleTrans, api.RoleTrans{}) }}, {api.ErrArg, func(p *api.Policy) { p.RoleTrans = append(p.RoleTrans, api.RoleTrans{Result: 1}) }}},
	{{api.ErrRange, func(p *api.Policy) { p.Ranges = append(p.Ranges, api.RangeTrans{Class: 9}) }}, {api.ErrArg, func(p *api.Policy) { p.Ranges = append(p.Ranges, api.RangeTrans{}) }}},
	{{api.ErrRange, func(p *api.Policy) { p.Constraints = append(p.Constraints, api.Constraint{Class: 9}) }}, {api.ErrArg, func(p *api.Policy) { p.Constraints = append(p.Constraints, api.Constraint{}) }}},
	{{api.ErrName, func(p *api.Policy) { p.Sids = append(p.Sids, api.InitialSid{}) }}, {api.ErrContext, func(p *api.Policy) {
		p.Sids = append(p.Sids, api.InitialSid{Name: "k", Context: api.Context{Role: 3}})
	}}},
	{{api.ErrName, func(p *api.Policy) { p.Files = append(p.Files, api.FileRule{}) }}, {api.ErrKind, func(p *api.Policy) { p.Files = append(p.Files, api.FileRule{Pattern: "/", Kind: 5}) }}},
	{{api.ErrName, func(p *api.Policy) { p.Asserts = append(p.Asserts, api.Assert{}) }}, {api.ErrKind, func(p *api.Policy) { p.Asserts = append(p.Asserts, api.Assert{Name: "k"}) }}},
}

// P13.7: lists are examined in the order of api.Policy, and elements in their order.
func TestOrderOfErrors(t *testing.T) {
	var l []spoiled
	both := func(first, second spoiled) {
		l = append(l, spoiled{first.code, func(p *api.Policy) { first.spoil(p); second.spoil(p) }})
	}
	for i, x := range lists {
		l = append(l, x[0], x[1])
		both(x[0], x[1])
		both(x[1], x[0])
		for _, y := range lists[i+1:] {
			for _, first := range x {
				for _, second := range y {
					both(first, second)
				}
			}
		}
	}
	checkSpoiled(t, l)
}

// P13.9: rules.
func TestCheckRules(t *testing.T) {
	ok := api.Rule{Kind: 1, Source: set(0), Target: set(1), Perms: 1}
	rule := func(code api.Errno, change func(r *api.Rule)) spoiled {
		return spoiled{code, func(p *api.Policy) {
			r := ok
			change(&r)
			p.Rules = append(p.Rules, r)
		}}
	}
	checkSpoiled(t, []spoiled{
		rule(api.OK, func(r *api.Rule) {}),
		rule(api.OK, func(r *api.Rule) { r.Kind = 4 }),
		rule(api.ErrKind, func(r *api.Rule) { r.Kind = 0 }),
		rule(api.ErrKind, func(r *api.Rule) { r.Kind = -1 }),
		rule(api.ErrKind, func(r *api.Rule) { r.Kind, r.Source = 5, set(9) }),
		rule(api.ErrRange, func(r *api.Rule) { r.Source = set(0, 3) }),
		rule(api.ErrRange, func(r *api.Rule) { r.Source, r.Target = set(3), api.Set{} }),
		rule(api.ErrRange, func(r *api.Rule) { r.Target = api.Set{1, 0, 1} }),
		rule(api.ErrRange, func(r *api.Rule) { r.Class = 2 }),
		rule(api.ErrRange, func(r *api.Rule) { r.Class, r.Perms = -1, 0 }),
		rule(api.ErrRange, func(r *api.Rule) { r.Class, r.Perms = math.MinInt, 0 }),
		rule(api.OK, func(r *api.Rule) { r.Perms = 7 }),
		rule(api.ErrRange, func(r *api.Rule) { r.Perms = 8 }),
		rule(api.ErrRange, func(r *api.Rule) { r.Class, r.Perms = 1, 4 }),
		rule(api.ErrRange, func(r *api.Rule) { r.Perms = 1<<31 | 1 }),
		rule(api.OK, func(r *api.Rule) { r.Cond = 2 }),
		rule(api.OK, func(r *api.Rule) { r.Cond = -2 }),
		rule(api.ErrRange, func(r *api.Rule) { r.Cond, r.Source = 3, api.Set{} }),
		rule(api.ErrRange, func(r *api.Rule) { r.Cond = -3 }),
		rule(api.ErrRange, func(r *api.Rule) { r.Cond = math.MinInt }),
		rule(api.ErrRange, func(r *api.Rule) { r.Cond, r.Kind = 3, 4 }),
		rule(api.ErrArg, func(r *api.Rule) { r.Source = api.Set{} }),
		rule(api.ErrArg, func(r *api.Rule) { r.Source, r.Self = api.Set{}, true }),
		rule(api.ErrArg, func(r *api.Rule) { r.Target = api.Set{} }),
		rule(api.OK, func(r *api.Rule) { r.Target, r.Self = api.Set{}, true }),
		rule(api.OK, func(r *api.Rule) { r.Self = true }),
		rule(api.ErrArg, func(r *api.Rule) { r.Perms = 0 }),
		rule(api.ErrArg, func(r *api.Rule) { r.Kind, r.Cond = 4, 1 }),
		rule(api.ErrArg, func(r *api.Rule) { r.Kind, r.Cond = 4, -1 }),
		{api.OK, func(p *api.Policy) {
			p.Classes[0].Perms = append(p.Classes[0].Perms, names("p", 29)...)
			p.Rules[0].Perms = math.MaxUint32
		}},
		{api.ErrRange, func(p *api.Policy) {
			p.Classes[0].Perms = append(p.Classes[0].Perms, names("p", 28)...)
			p.Rules[0].Perms = math.MaxUint32
		}},
	})
}

// P13.9: type transitions.
func TestCheckTransitions(t *testing.T) {
	ok := api.Trans{Kind: 1, Source: set(0), Target: set(1), Result: 2}
	trans := func(code api.Errno, change func(x *api.Trans)) spoiled {
		return spoiled{code, func(p *api.Policy) {
			x := ok
			change(&x)
			p.Trans = append(p.Trans, x)
		}}
	}
	name := func(code api.Errno, s string) spoiled { return trans(code, func(x *api.Trans) { x.Name = s }) }
	checkSpoiled(t, []spoiled{
		trans(api.OK, func(x *api.Trans) { x.Kind = 3 }),
		trans(api.ErrKind, func(x *api.Trans) { x.Kind, x.Result = 0, 9 }),
		trans(api.ErrKind, func(x *api.Trans) { x.Kind = 4 }),
		trans(api.ErrRange, func(x *api.Trans) { x.Source = set(3) }),
		trans(api.ErrRange, func(x *api.Trans) { x.Target = api.Set{0, 1} }),
		trans(api.ErrRange, func(x *api.Trans) { x.Class = 2 }),
		trans(api.ErrRange, func(x *api.Trans) { x.Class = -1 }),
		trans(api.ErrRange, func(x *api.Trans) { x.Result = 3 }),
		trans(api.ErrRange, func(x *api.Trans) { x.Result, x.Source = -1, api.Set{} }),
		trans(api.ErrRange, func(x *api.Trans) { x.Cond = 3 }),
		trans(api.ErrRange, func(x *api.Trans) { x.Cond, x.Kind, x.Name = -3, 2, "n" }),
		trans(api.OK, func(x *api.Trans) { x.Cond = -2 }),
		trans(api.ErrArg, func(x *api.Trans) { x.Source = api.Set{} }),
		trans(api.ErrArg, func(x *api.Trans) { x.Target, x.Name = api.Set{}, "/" }),
		trans(api.ErrArg, func(x *api.Trans) { x.Kind, x.Name = 2, "n" }),
		trans(api.ErrArg, func(x *api.Trans) { x.Kind, x.Name = 3, "/" }),
		name(api.OK, "a.b!~"), name(api.OK, strings.Repeat("n", api.MaxName)), name(api.ErrName, strings.Repeat("n", api.MaxName+1)),
		name(api.ErrName, "a b"), name(api.ErrName, "a/b"), name(api.ErrName, "\""), name(api.ErrName, "é"), name(api.ErrName, "\x7f"), name(api.ErrName, "\n"),
	})
}

// P13.9: role transitions and range transitions.
func TestCheckOtherTransitions(t *testing.T) {
	role := func(code api.Errno, roles, types api.Set, class, result int) spoiled {
		return spoiled{code, func(p *api.Policy) {
			p.RoleTrans = append(p.RoleTrans, api.RoleTrans{Roles: roles, Types: types, Class: class, Result: result})
		}}
	}
	level := func(code api.Errno, source, target api.Set, class int, low, high api.Level) spoiled {
		return spoiled{code, func(p *api.Policy) {
			p.Ranges = append(p.Ranges, api.RangeTrans{Source: source, Target: target, Class: class, Range: span(low, high)})
		}}
	}
	none := api.Set{}
	checkSpoiled(t, []spoiled{
		role(api.OK, set(1, 2, 3), set(0, 1, 2), 1, 3),
		role(api.ErrRange, set(0, 1), set(0), 0, 1),
		role(api.ErrRange, set(4), set(0), 0, 1),
		role(api.ErrRange, set(1), set(3), 0, 1),
		role(api.ErrRange, set(1), set(0), 2, 1),
		role(api.ErrRange, set(1), set(0), -1, 1),
		role(api.ErrRange, set(1), none, 0, 0),
		role(api.ErrRange, none, set(0), 0, 4),
		role(api.ErrRange, none, set(0), 0, -1),
		role(api.ErrArg, none, set(0), 0, 1),
		role(api.ErrArg, set(1), none, 0, 1),

		level(api.OK, set(0), set(0, 1, 2), 1, at(0, 2), at(1, 7)),
		level(api.ErrRange, set(3), set(0), 0, at(0, 0), at(0, 0)),
		level(api.ErrRange, set(0), set(3), 0, at(0, 0), at(0, 0)),
		level(api.ErrRange, set(0), set(0), 2, at(0, 0), at(2, 0)),
		level(api.ErrRange, none, set(0), -1, at(0, 0), at(0, 0)),
		level(api.ErrArg, none, set(0), 0, at(1, 0), at(0, 0)),
		level(api.ErrArg, set(0), none, 0, at(0, 0), at(0, 0)),
		level(api.ErrLevel, set(0), set(0), 0, at(1, 0), at(0, 0)),
		level(api.ErrLevel, set(0), set(0), 0, at(0, 1), at(1, 0)),
		level(api.ErrLevel, set(0), set(0), 0, at(0, 0), at(2, 0)),
		level(api.ErrLevel, set(0), set(0), 0, at(0, 0), at(0, 8)),
		level(api.ErrLevel, set(0), set(0), 0, at(-1, 0), at(0, 0)),
	})
}

// P13.9: contexts, of initial identifiers and of file context rules.
func TestCheckContexts(t *testing.T) {
	s0 := span(at(0, 0), at(0, 0))
	for _, x := range []struct {
		c    api.Context
		code api.Errno
	}{
		{api.Context{Type: 2}, api.OK},
		{api.Context{User: 1, Type: 2, Range: span(at(0, 0), at(1, 7))}, api.OK},
		{api.Context{Role: 1, Range: s0}, api.OK},
		{api.Context{Role: 2, Type: 1, Range: span(at(0, 0), at(1, 7))}, api.OK},
		{api.Context{User: 2, Range: s0}, api.ErrRange},
		{api.Context{User: -1, Range: s0}, api.ErrRange},
		{api.Context{Role: 4, Range: s0}, api.ErrRange},
		{api.Context{Role: -1, Range: s0}, api.ErrRange},
		{api.Context{Type: 3, Range: s0}, api.ErrRange},
		{api.Context{Type: -1, Range: span(at(2, 0), at(2, 0))}, api.ErrRange},
		{api.Context{User: math.MaxInt, Role: math.MaxInt, Type: math.MinInt}, api.ErrRange},
		{api.Context{Range: span(at(0, 0), at(2, 0))}, api.ErrLevel},
		{api.Context{Range: span(at(1, 0), at(0, 0))}, api.ErrLevel},
		{api.Context{Range: span(at(0, 8), at(0, 8))}, api.ErrLevel},
		{api.Context{Role: 3, Range: span(at(0, 1), at(0, 0))}, api.ErrLevel},
		{api.Context{Role: 3, Range: s0}, api.ErrContext},                                // the user does not have the role
		{api.Context{User: 1, Role: 3, Range: span(at(1, 2), at(1, 2))}, api.ErrContext}, // the role does not have the type
		{api.Context{Role: 1, Type: 1, Range: s0}, api.ErrContext},
	} {
		checkSpoiled(t, []spoiled{
			{x.code, func(p *api.Policy) { p.Sids[1].Context = x.c }},
			{x.code, func(p *api.Policy) { p.Files[1].Context = x.c }},
		})
	}
	inner := func(code api.Errno, low, high api.Level) spoiled {
		return spoiled{code, func(p *api.Policy) {
			p.Users[0].Default, p.Users[0].Range = at(0, 2), span(at(0, 2), at(1, 3))
			p.Sids = []api.InitialSid{{Name: "k", Context: api.Context{Role: 1, Range: span(low, high)}}}
			p.Files = p.Files[:1]
		}}
	}
	checkSpoiled(t, []spoiled{
		inner(api.OK, at(0, 2), at(1, 3)), inner(api.OK, at(1, 2), at(1, 2)), inner(api.ErrContext, at(0, 0), at(1, 3)), inner(api.ErrContext, at(0, 2), at(1, 7)), inner(api.ErrContext, at(0, 1), at(0, 1)),
	})
}

// P13.9: initial identifiers, file context rules and assertions.
func TestCheckNamed(t *testing.T) {
	file := func(code api.Errno, pattern string, kind int) spoiled {
		return spoiled{code, func(p *api.Policy) { p.Files = append(p.Files, api.FileRule{Pattern: pattern, Kind: kind}) }}
	}
	assertion := func(code api.Errno, name string, kind int, source, target api.Set) spoiled {
		return spoiled{code, func(p *api.Policy) {
			p.Asserts = append(p.Asserts, api.Assert{Name: name, Kind: kind, Source: source, Target: target})
		}}
	}
	checkSpoiled(t, []spoiled{
		{api.ErrName, func(p *api.Policy) { p.Sids[0] = api.InitialSid{Context: api.Context{User: 9}} }},
		{api.ErrTwice, func(p *api.Policy) { p.Sids[1] = api.InitialSid{Name: "kernel", Context: api.Context{User: 9}} }},
		{api.ErrRange, func(p *api.Policy) { p.Sids[0].Context.User = 9; p.Sids[1].Name = "kernel" }},

		file(api.OK, "/x", 0), file(api.OK, "any text (with marks) ~", 4), file(api.OK, strings.Repeat("/", api.MaxPath), 1), file(api.OK, " ", 2),
		file(api.ErrName, "", 0), file(api.ErrName, strings.Repeat("/", api.MaxPath+1), 0), file(api.ErrName, "/\"", 0), file(api.ErrName, "/\x7f", 0), file(api.ErrName, "\x1f", 0), file(api.ErrName, "/é", 9),
		file(api.ErrKind, "/", 5), file(api.ErrKind, "/", -1),
		{api.ErrKind, func(p *api.Policy) { p.Files[0].Kind, p.Files[0].Context.User = 5, 9 }},
		{api.ErrRange, func(p *api.Policy) { p.Files[0].Context.User = 9 }},

		assertion(api.OK, "k", 1, set(0), set(0, 1, 2)), assertion(api.OK, "k", 3, set(2), set(2)),
		assertion(api.ErrName, "", 0, set(3), set(0)), assertion(api.ErrTwice, "y", 0, set(3), set(0)),
		assertion(api.ErrKind, "k", 0, set(3), set(0)), assertion(api.ErrKind, "k", 4, set(0), set(0)), assertion(api.ErrKind, "k", -1, set(0), set(0)),
		assertion(api.ErrRange, "k", 1, set(3), api.Set{}), assertion(api.ErrRange, "k", 1, api.Set{}, set(3)),
		assertion(api.ErrArg, "k", 1, api.Set{}, set(0)), assertion(api.ErrArg, "k", 1, set(0), api.Set{}),
	})
}

// P13.8: conditions.
func TestCheckConditions(t *testing.T) {
	p, q := api.Expr{Op: api.ExprName}, api.Expr{Op: api.ExprName, A: 1}
	deep := func(levels int) api.Expr {
		e := p
		for range levels - 1 {
			e = op(api.ExprNot, e)
		}
		return e
	}
	wide := func(kid api.Expr) api.Expr { return op(api.ExprAnd, p, op(api.ExprXor, kid, q)) }
	for i, x := range []struct {
		e    api.Expr
		code api.Errno
	}{
		{p, api.OK}, {q, api.OK}, {op(api.ExprNot, q), api.OK}, {op(api.ExprAnd, p, q), api.OK}, {op(api.ExprOr, p, q), api.OK}, {op(api.ExprXor, p, p), api.OK}, {op(api.ExprSame, q, p), api.OK}, {op(api.ExprDiffer, p, q), api.OK},
		{api.Expr{Op: api.ExprName, Names: []string{}, Kids: []api.Expr{}}, api.OK},
		{deep(api.MaxNest), api.OK}, {deep(api.MaxNest + 1), api.ErrLong}, {deep(api.MaxNest + 1000), api.ErrLong}, {op(99, deep(api.MaxNest)), api.ErrLong}, {op(api.ExprAnd, p, deep(api.MaxNest)), api.ErrLong}, {op(api.ExprAnd, deep(api.MaxNest-1), p), api.OK},
		{api.Expr{}, api.ErrArg}, {api.Expr{Op: -1}, api.ErrArg}, {api.Expr{Op: 10}, api.ErrArg}, {compare(0, 0, 5), api.ErrArg}, {in(0, set(0)), api.ErrArg},
		{op(api.ExprName, p), api.ErrArg}, {op(api.ExprNot), api.ErrArg}, {op(api.ExprNot, p, q), api.ErrArg}, {op(api.ExprAnd, p), api.ErrArg}, {op(api.ExprOr), api.ErrArg}, {op(api.ExprXor, p, q, p), api.ErrArg}, {op(api.ExprSame, p), api.ErrArg}, {op(api.ExprDiffer, p), api.ErrArg},
		{api.Expr{Op: api.ExprName, Names: []string{"p"}}, api.ErrArg}, {api.Expr{Op: api.ExprName, A: 5, Names: []string{"p"}}, api.ErrArg}, {api.Expr{Op: api.ExprName, B: 1}, api.ErrArg}, {api.Expr{Op: api.ExprName, Rel: 1}, api.ErrArg}, {api.Expr{Op: api.ExprName, Set: api.Set{0, 0, 0, 1}}, api.ErrArg},
		{api.Expr{Op: api.ExprNot, A: 1, Kids: []api.Expr{p}}, api.ErrArg}, {api.Expr{Op: api.ExprAnd, B: -1, Kids: []api.Expr{p, p}}, api.ErrArg}, {api.Expr{Op: api.ExprOr, Names: []string{""}, Kids: []api.Expr{p, p}}, api.ErrArg},
		{api.Expr{Op: api.ExprName, A: 2}, api.ErrRange}, {api.Expr{Op: api.ExprName, A: -1}, api.ErrRange}, {api.Expr{Op: api.ExprName, A: math.MaxInt}, api.ErrRange},
		{wide(p), api.OK}, {wide(op(api.ExprNot)), api.ErrArg}, {wide(api.Expr{Op: api.ExprName, A: 2}), api.ErrRange},
		{op(api.ExprAnd, api.Expr{Op: api.ExprName, A: 2}, op(api.ExprNot)), api.ErrRange}, {op(api.ExprAnd, op(api.ExprNot), api.Expr{Op: api.ExprName, A: 2}), api.ErrArg}, {op(api.ExprNot, api.Expr{Op: api.ExprName, A: 2}, p), api.ErrArg},
		{op(api.ExprAnd, op(api.ExprNot, api.Expr{Op: api.ExprName, A: 2}), op(api.ExprNot)), api.ErrRange},
	} {
		bad := valid(t)
		bad.Conds = append(bad.Conds, x.e)
		if got := linker.Check(bad); got != x.code {
			t.Errorf("%d, %v: got %v, want %v", i, x.e, got, x.code)
		}
	}
}

// P13.8: expressions of constraints, with two contexts and with three.
func TestCheckExpressions(t *testing.T) {
	user := compare(0, 0, 5)
	deep := func(levels int) api.Expr {
		e := user
		for range levels - 1 {
			e = op(api.ExprNot, e)
		}
		return e
	}
	check := func(i int, e api.Expr, validate bool, code api.Errno) {
		t.Helper()
		p := valid(t)
		p.Constraints = append(p.Constraints, api.Constraint{Perms: 1, Expr: e})
		if validate {
			p.Constraints[2] = api.Constraint{Validate: true, Expr: e}
		}
		if got := linker.Check(p); got != code {
			t.Errorf("%d, %v, %v: got %v, want %v", i, e, validate, got, code)
		}
	}
	for i, x := range []struct {
		e    api.Expr
		code api.Errno
	}{
		{user, api.OK}, {op(api.ExprNot, user), api.OK}, {op(api.ExprAnd, user, in(1, set(0))), api.OK}, {op(api.ExprOr, user, user), api.OK},
		{compare(6, 1, 1), api.OK}, {compare(2, 1, 2), api.OK}, {compare(3, 4, 9), api.OK}, {compare(8, 3, 4), api.OK}, {compare(9, 0, 3), api.OK},
		{in(0, set(0, 1)), api.OK}, {in(6, set(0, 3)), api.OK}, {in(7, set(0, 1, 2)), api.OK},
		{deep(api.MaxNest), api.OK}, {deep(api.MaxNest + 1), api.ErrLong}, {op(99, user, deep(api.MaxNest)), api.ErrLong},
		{api.Expr{}, api.ErrArg}, {api.Expr{Op: api.ExprName}, api.ErrArg}, {op(api.ExprXor, user, user), api.ErrArg}, {op(api.ExprSame, user, user), api.ErrArg}, {op(api.ExprDiffer, user, user), api.ErrArg}, {op(10), api.ErrArg},
		{op(api.ExprNot), api.ErrArg}, {op(api.ExprNot, user, user), api.ErrArg}, {op(api.ExprAnd, user), api.ErrArg}, {op(api.ExprOr, user, user, user), api.ErrArg},
		{api.Expr{Op: api.ExprCompare, B: 5, Kids: []api.Expr{user}}, api.ErrArg}, {api.Expr{Op: api.ExprCompare, B: 15, Names: []string{"a"}}, api.ErrArg}, {api.Expr{Op: api.ExprCompare, B: 5, Set: set(0)}, api.ErrArg},
		{api.Expr{Op: api.ExprIn, B: 1, Set: set(0)}, api.ErrArg}, {api.Expr{Op: api.ExprIn, Rel: 1, Set: set(0)}, api.ErrArg}, {api.Expr{Op: api.ExprIn, Names: []string{"u"}, Set: set(0)}, api.ErrArg}, {api.Expr{Op: api.ExprIn, Kids: []api.Expr{user}, Set: set(0)}, api.ErrArg},
		{api.Expr{Op: api.ExprNot, A: 1, Kids: []api.Expr{user}}, api.ErrArg}, {api.Expr{Op: api.ExprAnd, Set: set(0), Kids: []api.Expr{user, user}}, api.ErrArg},
		{compare(-1, 0, 0), api.ErrRange}, {compare(0, 0, -5), api.ErrRange}, {compare(0, 5, 5), api.ErrRange}, {compare(0, -1, 6), api.ErrRange}, {compare(0, 0, 15), api.ErrRange}, {compare(15, 0, 0), api.ErrRange}, {compare(20, 1, 5), api.ErrRange},
		{compare(0, 0, 6), api.ErrKind}, {compare(1, 0, 7), api.ErrKind}, {compare(2, 0, 3), api.ErrKind}, {compare(4, 1, 5), api.ErrKind}, {compare(0, 2, 5), api.ErrKind}, {compare(1, 3, 6), api.ErrKind}, {compare(2, 4, 7), api.ErrKind}, {compare(3, 2, 5), api.ErrKind},
		{in(-1, set(0)), api.ErrRange}, {in(-5, set(0)), api.ErrRange}, {in(15, set(0)), api.ErrRange}, {in(3, set(0)), api.ErrKind}, {in(4, set(9)), api.ErrKind}, {in(8, api.Set{}), api.ErrKind}, {in(9, set(0)), api.ErrKind},
		{in(0, set(2)), api.ErrRange}, {in(1, set(4)), api.ErrRange}, {in(2, set(3)), api.ErrRange}, {in(7, api.Set{0, 1}), api.ErrRange}, {in(0, api.Set{}), api.ErrArg}, {in(6, api.Set{}), api.ErrArg}, {in(2, api.Set{}), api.ErrArg},
		{op(api.ExprAnd, compare(0, 0, 6), op(api.ExprNot)), api.ErrKind}, {op(api.ExprAnd, op(api.ExprNot), compare(0, 0, 6)), api.ErrArg}, {op(api.ExprAnd, op(api.ExprNot, compare(0, 0, 99)), compare(0, 0, 6)), api.ErrRange}, {op(api.ExprNot, compare(0, 0, 6), user), api.ErrArg},
	} {
		check(i, x.e, false, x.code)
		check(i, x.e, true, x.code)
	}
	for i, e := range []api.Expr{compare(10, 0, 0), compare(5, 1, 10), compare(13, 4, 14), compare(3, 2, 13), in(10, set(0)), in(11, set(3)), in(12, set(0, 2))} {
		check(i, e, false, api.ErrRange)
		check(i, e, true, api.OK)
	}
	for i, e := range []api.Expr{in(13, set(0)), in(14, set(0)), compare(11, 0, 10), compare(12, 2, 2)} {
		check(i, e, false, api.ErrRange)
		check(i, e, true, api.ErrKind)
	}
}

// P13.9: constraints.
func TestCheckConstraints(t *testing.T) {
	user := compare(0, 0, 5)
	constraint := func(code api.Errno, class int, perms uint32, validate bool, e api.Expr) spoiled {
		return spoiled{code, func(p *api.Policy) {
			p.Constraints = append(p.Constraints, api.Constraint{Class: class, Perms: perms, Validate: validate, Expr: e})
		}}
	}
	checkSpoiled(t, []spoiled{
		constraint(api.OK, 0, 7, false, user), constraint(api.OK, 1, 0, true, user),
		constraint(api.ErrRange, 2, 1, false, user), constraint(api.ErrRange, -1, 0, true, user), constraint(api.ErrRange, 1, 4, false, user), constraint(api.ErrRange, 0, 8, true, user), constraint(api.ErrRange, 0, 1<<31, false, api.Expr{}),
		constraint(api.ErrArg, 0, 0, false, user), constraint(api.ErrArg, 0, 1, true, user), constraint(api.ErrArg, 0, 0, false, compare(0, 0, 6)), constraint(api.ErrArg, 0, 1, true, compare(0, 0, 6)),
		constraint(api.ErrKind, 0, 1, false, compare(0, 0, 6)), constraint(api.ErrArg, 0, 1, false, api.Expr{}),
	})
}
