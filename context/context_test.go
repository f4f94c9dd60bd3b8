package context_test

import (
	"math"
	"testing"

	"accesscontrol/api"
	"accesscontrol/bitset"
	"accesscontrol/context"
	"accesscontrol/linker"
)

// P19.1: the errors of a context, in their order.
func TestCheck(t *testing.T) {
	p := policy(t, base)
	s0, s1 := only(lvl(0, 0)), only(lvl(1, 2))
	down := api.Range{Low: lvl(1, 0), High: lvl(0, 0)}
	for _, x := range []struct {
		c    api.Context
		want api.Errno
	}{
		{with(0, 1, 0, s0), api.OK},
		{with(0, 1, 1, api.Range{High: lvl(1, 7)}), api.OK},
		{with(0, 2, 2, s1), api.OK},
		{with(1, 2, 2, api.Range{Low: lvl(1, 2), High: lvl(2, 15)}), api.OK},

		{with(2, 1, 0, s0), api.ErrRange},
		{with(-1, 1, 0, s0), api.ErrRange},
		{with(0, 4, 0, s0), api.ErrRange},
		{with(0, -1, 0, s0), api.ErrRange},
		{with(0, 1, 3, s0), api.ErrRange},
		{with(0, 1, -1, s0), api.ErrRange},
		{with(0, 0, 3, s0), api.ErrRange},
		{with(2, 0, 0, s0), api.ErrRange},
		{with(math.MinInt, math.MaxInt, math.MinInt, s0), api.ErrRange},

		{with(0, 1, 0, only(lvl(3, 0))), api.ErrLevel},
		{with(0, 1, 0, only(lvl(-1, 0))), api.ErrLevel},
		{with(0, 1, 0, only(lvl(0, 16))), api.ErrLevel},
		{with(0, 1, 0, down), api.ErrLevel},
		{with(0, 1, 0, api.Range{Low: lvl(0, 1), High: lvl(1, 2)}), api.ErrLevel},
		{with(0, 1, 0, api.Range{High: lvl(3, 0)}), api.ErrLevel},

		{with(0, 3, 0, s0), api.ErrContext},                          // the user does not have the role
		{with(1, 1, 0, s1), api.ErrContext},                          // likewise
		{with(0, 1, 2, s0), api.ErrContext},                          // the role does not have the type
		{with(1, 3, 0, s1), api.ErrContext},                          // likewise
		{with(1, 2, 2, s0), api.ErrContext},                          // the range is below that of the user
		{with(0, 1, 0, only(lvl(2, 0))), api.ErrContext},             // above it
		{with(0, 1, 0, api.Range{High: lvl(1, 8)}), api.ErrContext},  // has another category
		{with(1, 2, 2, only(lvl(1, 1))), api.ErrContext},             // does not have one that the lower bound has
		{with(1, 2, 2, api.Range{High: lvl(2, 15)}), api.ErrContext}, // begins below
		{with(0, 2, 2, api.Range{High: lvl(2, 0)}), api.ErrContext},  // ends above
		{with(0, 2, 2, api.Range{Low: lvl(0, 1), High: lvl(1, 15)}), api.ErrContext},

		{with(2, 1, 0, down), api.ErrRange},
		{with(0, 1, 9, down), api.ErrRange},
		{with(0, 3, 0, down), api.ErrLevel},
		{with(0, 1, 2, only(lvl(3, 0))), api.ErrLevel},
	} {
		checkCode(t, p, x.c, x.want)
	}
}

// P19.1: with the role of objects neither the user nor the role limits the context.
func TestCheckOfObjects(t *testing.T) {
	p := policy(t, base)
	p.Users[0].Roles = api.Set{}
	if code := linker.Check(p); code != api.OK {
		t.Fatalf("got %v", code)
	}
	for user := range 2 {
		for kind := range 3 {
			checkCode(t, p, with(user, 0, kind, api.Range{High: lvl(2, 15)}), api.OK)
			checkCode(t, p, with(user, 0, kind, only(lvl(0, 8))), api.OK)
			checkCode(t, p, with(user, 0, kind, only(lvl(3, 0))), api.ErrLevel)
			checkCode(t, p, with(user, 0, kind, api.Range{Low: lvl(0, 1), High: lvl(2, 6)}), api.ErrLevel)
		}
	}
}

// modelCode is the definition of the error of a context.
func modelCode(p api.Policy, c api.Context) api.Errno {
	exists := func(n, count int) bool { return n >= 0 && n < count }
	dominates := func(a, b api.Level) bool { return a.Sens >= b.Sens && a.Cats|b.Cats == a.Cats }
	if !exists(c.User, len(p.Users)) || !exists(c.Role, len(p.Roles)) || !exists(c.Type, len(p.Types)) {
		return api.ErrRange
	}
	low, high := c.Range.Low, c.Range.High
	for _, l := range []api.Level{low, high} {
		if !exists(l.Sens, len(p.Sens)) || l.Cats >= 1<<len(p.Cats) {
			return api.ErrLevel
		}
	}
	if !dominates(high, low) {
		return api.ErrLevel
	}
	user, role := p.Users[c.User], p.Roles[c.Role]
	permitted := user.Roles[0]&(1<<c.Role) != 0 && role.Types[0]&(1<<c.Type) != 0 && dominates(low, user.Range.Low) && dominates(user.Range.High, high)
	if c.Role != 0 && !permitted {
		return api.ErrContext
	}
	return api.OK
}

// P19.1: the error is that of the definition, and the one that linker.Check returns for an initial identifier.
func TestModelOfCheck(t *testing.T) {
	count := map[api.Errno]int{}
	for seed := range 300 {
		pick := newPicker(seed)
		p := pick.policy(t)
		for range 50 {
			c := pick.context(p)
			want := modelCode(p, c)
			checkCode(t, p, c, want)
			p.Sids = []api.InitialSid{{Name: "kernel", Context: c}}
			if code := linker.Check(p); code != want {
				t.Errorf("the linker says %v, not %v, of %v", code, want, c)
			}
			count[want]++
		}
	}
	for _, code := range []api.Errno{api.OK, api.ErrRange, api.ErrLevel, api.ErrContext} {
		if count[code] < 500 {
			t.Errorf("only %d times %v", count[code], code)
		}
	}
}

// P19.1: Object.
func TestObject(t *testing.T) {
	for _, role := range []int{0, 1, -1, 31, 256, math.MaxInt, math.MinInt} {
		for _, c := range []api.Context{with(0, role, 0, api.Range{}), with(-1, role, 7, only(lvl(-3, 9)))} {
			if got := context.Object(c); got != (role == 0) {
				t.Errorf("Object(%v): got %v", c, got)
			}
		}
	}
}

// P19.1: Same compares all parts.
func TestSame(t *testing.T) {
	c := with(1, 2, 3, api.Range{Low: lvl(4, 5), High: lvl(6, 7)})
	if !context.Same(c, c) || !context.Same(api.Context{}, api.Context{}) {
		t.Errorf("a context is not the same as itself")
	}
	for i, change := range []func(*api.Context){
		func(c *api.Context) { c.User = 0 }, func(c *api.Context) { c.Role = 1 }, func(c *api.Context) { c.Type = -3 },
		func(c *api.Context) { c.Range.Low.Sens = 6 }, func(c *api.Context) { c.Range.Low.Cats = 1<<63 + 5 },
		func(c *api.Context) { c.Range.High.Sens = 4 }, func(c *api.Context) { c.Range.High.Cats = 5 },
	} {
		d := c
		change(&d)
		if context.Same(c, d) || context.Same(d, c) || !context.Same(d, d) {
			t.Errorf("change %d is not seen", i)
		}
	}
}

// P19.4: the example, and users with different roles and levels.
func TestAll(t *testing.T) {
	s0 := only(lvl(0, 0))
	checkAll(t, policy(t, small), []api.Context{
		with(0, 0, 0, s0), with(0, 0, 1, s0), with(0, 0, 2, s0), with(0, 0, 3, s0), with(0, 1, 0, s0), with(0, 1, 1, s0),
	})
	s1 := only(lvl(1, 2))
	want := []api.Context{
		with(0, 0, 0, s0), with(0, 0, 1, s0), with(0, 0, 2, s0), with(0, 1, 0, s0), with(0, 1, 1, s0), with(0, 2, 2, s0),
		with(1, 0, 0, s1), with(1, 0, 1, s1), with(1, 0, 2, s1), with(1, 2, 2, s1),
	}
	p := policy(t, base)
	checkAll(t, p, want)
	p.Users[1].Roles = api.Set{}
	checkAll(t, p, want[:9])
	p.Roles = p.Roles[:1]
	p.Users[0].Roles = api.Set{}
	checkAll(t, p, append(want[:3:3], want[6:9]...))
	checkAll(t, policy(t, "class file { read }; type a; role r types { a };"), nil)
	checkAll(t, api.Policy{Roles: p.Roles, Types: p.Types}, nil)
	checkAll(t, api.Policy{Roles: p.Roles, Users: p.Users, Sens: p.Sens, Cats: p.Cats}, nil)
}

// P19.4: all valid contexts with the default level, in their order.
func TestModelOfAll(t *testing.T) {
	for seed := range 300 {
		p := newPicker(seed).policy(t)
		var want []api.Context
		for user, u := range p.Users {
			for role := range p.Roles {
				for kind := range p.Types {
					if c := with(user, role, kind, only(u.Default)); modelCode(p, c) == api.OK {
						want = append(want, c)
					}
				}
			}
		}
		checkAll(t, p, want)
	}
}

// P19.4: a policy of the largest size.
func TestAllOfMany(t *testing.T) {
	p := api.Policy{Sens: []string{"s"}, Types: make([]api.Type, api.MaxTypes), Users: make([]api.User, api.MaxUsers), Roles: []api.Role{{Name: api.ObjectRole}}}
	for range api.MaxRoles - 1 {
		p.Roles = append(p.Roles, api.Role{Types: bitset.All(api.MaxTypes)})
	}
	for i := range p.Users {
		p.Users[i].Roles = bitset.Without(bitset.All(api.MaxRoles), 0)
	}
	l := context.All(p)
	if len(l) != api.MaxUsers*api.MaxRoles*api.MaxTypes {
		t.Fatalf("got %d contexts", len(l))
	}
	for n, c := range l {
		if want := with(n/api.MaxTypes/api.MaxRoles, n/api.MaxTypes%api.MaxRoles, n%api.MaxTypes, api.Range{}); c != want {
			t.Fatalf("%d: got %v, want %v", n, c, want)
		}
	}
}

// P19.4: Initial.
func TestInitial(t *testing.T) {
	p := policy(t, small+"sid other root:object_r:shell_t:s0;")
	s0 := only(lvl(0, 0))
	for name, want := range map[string]api.Context{
		"kernel": with(0, 1, 0, s0), "root": with(0, 0, 2, s0), "unlabeled": with(0, 0, 2, s0), "other": with(0, 0, 3, s0),
	} {
		if got, ok := context.Initial(p, name); got != want || !ok {
			t.Errorf("Initial(%q): got %v, %v, want %v", name, got, ok, want)
		}
	}
	for _, name := range []string{"", "Kernel", "kernel ", "kerne", "system", "init_t"} {
		if got, ok := context.Initial(p, name); got != (api.Context{}) || ok {
			t.Errorf("Initial(%q): got %v, %v", name, got, ok)
		}
	}
	if got, ok := context.Initial(api.Policy{}, "kernel"); got != (api.Context{}) || ok {
		t.Errorf("got %v, %v", got, ok)
	}
}

// P19.8: a context stays valid with more roles of the user, and a wider range.
func TestStaysValid(t *testing.T) {
	valid, became := 0, 0
	for seed := range 300 {
		pick := newPicker(seed)
		p := pick.policy(t)
		wide := p
		wide.Users = nil
		for _, u := range p.Users {
			u.Roles = bitset.Without(bitset.All(len(p.Roles)), 0)
			u.Range = api.Range{High: lvl(len(p.Sens)-1, 1<<len(p.Cats)-1)}
			wide.Users = append(wide.Users, u)
		}
		if code := linker.Check(wide); code != api.OK {
			t.Fatalf("got %v", code)
		}
		for range 20 {
			c := pick.context(p)
			before, after := context.Check(p, c), context.Check(wide, c)
			switch {
			case before == api.OK && after != api.OK:
				t.Errorf("%v is not valid any more: %v", c, after)
			case before == api.OK:
				valid++
			case after == api.OK:
				became++
			}
		}
	}
	if valid < 500 || became < 500 {
		t.Errorf("%d contexts stay, and %d become valid", valid, became)
	}
}
