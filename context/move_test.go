package context_test

import (
	"math"
	"slices"
	"strings"
	"testing"

	"accesscontrol/api"
	"accesscontrol/context"
)

// other has names of base in another order: a is an alias, b and r3 and c3 and s2 are missing.
const other = `class file { read };
attribute b;
type c; type n alias { k a }; type m alias { d };
sensitivity s0; sensitivity s1;
category c2; category c0; category c1;
role r2 types { c m }; role r1 types { n c };
user w roles { r1 } level s0 range s0;
user v roles { r2 r1 } level s1 range s0-s1:c2.c1;
user u roles { r1 } level s1:c0 range s0-s1:c2,c0;
`

// P19.3: the context with the same names.
func TestMove(t *testing.T) {
	a, b := policy(t, base), policy(t, other)
	for _, x := range []struct{ from, to string }{
		{"u:r1:a:s0", "u:r1:n:s0"},
		{"u:object_r:a:s0", "u:object_r:n:s0"},
		{"u:r1:a:s0:c2-s1:c0,c2", "u:r1:n:s0:c2-s1:c2.c0"},
		{"v:r2:c:s1:c1", "v:r2:c:s1:c1"},
		{"v:r2:c:s1:c0.c1", "v:r2:c:s1:c0.c1"},
		{"v:r2:c:s1:c1.c2", "v:r2:c:s1:c2,c1"},
		{"v:object_r:c:s0-s1:c0.c2", "v:object_r:c:s0-s1:c2.c1"},
		{"u:object_r:c:s0:c1", "u:object_r:c:s0:c1"},
	} {
		from, code := context.Parse(a, x.from)
		to, err := context.Parse(b, x.to)
		if code != api.OK || err != api.OK {
			t.Fatalf("%q, %q: got %v, %v", x.from, x.to, code, err)
		}
		checkMove(t, a, b, from, to, api.OK)
	}
}

// P19.3: the errors of Move, in their order.
func TestMoveErrors(t *testing.T) {
	a, b := policy(t, base), policy(t, other)
	for _, c := range []api.Context{
		with(2, 0, 0, api.Range{}), with(0, -1, 0, api.Range{}), with(0, 0, math.MaxInt, api.Range{}), with(0, 0, 0, only(lvl(3, 0))),
		with(0, 0, 0, only(lvl(0, 16))), with(0, 1, 0, api.Range{Low: lvl(1, 0)}), with(0, 3, 1, api.Range{}), with(0, 1, 2, api.Range{}),
	} {
		checkMove(t, a, b, c, api.Context{}, modelCode(a, c))
		checkMove(t, a, api.Policy{}, c, api.Context{}, modelCode(a, c))
	}
	for _, s := range []string{
		"u:r1:b:s0",                // the type is missing: b is an attribute there, and its alias d plays no part
		"u:object_r:b:s0",          // likewise
		"v:object_r:a:s2",          // a sensitivity is missing
		"v:object_r:a:s0-s2",       // likewise
		"v:object_r:a:s0:c3",       // a category is missing
		"v:object_r:a:s0-s1:c0.c3", // likewise
		"u:r2:c:s0",                // the user does not have the role there
		"u:r1:a:s1:c1",             // nor the range
		"u:r1:a:s0-s1:c0.c2",
	} {
		c, code := context.Parse(a, s)
		if code != api.OK {
			t.Fatalf("%q: got %v", s, code)
		}
		checkMove(t, a, b, c, api.Context{}, api.ErrContext)
		checkMove(t, a, api.Policy{}, c, api.Context{}, api.ErrContext)
	}
	valid := with(0, 1, 0, api.Range{})
	for _, change := range []func(*api.Policy){
		func(p *api.Policy) { p.Users[0].Name = "lost" }, func(p *api.Policy) { p.Roles[1].Name = "lost" }, func(p *api.Policy) { p.Types[0].Name = "lost" },
		func(p *api.Policy) { p.Sens[0] = "lost" }, func(p *api.Policy) { p.Roles[1].Types = api.Set{6} }, func(p *api.Policy) { p.Users[0].Roles = api.Set{12} },
		func(p *api.Policy) { p.Users[0].Range.Low.Sens = 1 },
	} {
		b := policy(t, base)
		change(&b)
		checkMove(t, a, b, valid, api.Context{}, api.ErrContext)
	}
}

// P19.3: sensitivities in another order make a range that is not valid.
func TestMoveOfLevels(t *testing.T) {
	a, b := policy(t, base), policy(t, base)
	b.Sens = []string{"s1", "s2", "s0"}
	checkMove(t, a, b, with(0, 0, 0, api.Range{High: lvl(1, 3)}), api.Context{}, api.ErrContext)
	checkMove(t, a, b, with(0, 0, 0, api.Range{Low: lvl(1, 1), High: lvl(2, 3)}), with(0, 0, 0, api.Range{Low: lvl(0, 1), High: lvl(1, 3)}), api.OK)
	checkMove(t, a, b, with(0, 0, 0, api.Range{High: lvl(0, 3)}), with(0, 0, 0, api.Range{Low: lvl(2, 0), High: lvl(2, 3)}), api.OK)
}

// P19.3: all categories.
func TestMoveOfCategories(t *testing.T) {
	var a, b api.Policy
	for _, p := range []*api.Policy{&a, &b} {
		*p = policy(t, base)
		p.Cats = nil
		for n := range api.MaxCats {
			p.Cats = append(p.Cats, "c"+strings.Repeat("x", n%8)+strings.Repeat("y", n/8))
		}
	}
	slices.Reverse(b.Cats)
	for n := range api.MaxCats {
		checkMove(t, a, b, with(0, 0, 0, api.Range{High: lvl(0, 1<<n)}), with(0, 0, 0, api.Range{High: lvl(0, 1<<(63-n))}), api.OK)
	}
	all := only(lvl(0, math.MaxUint64))
	checkMove(t, a, b, with(0, 0, 0, all), with(0, 0, 0, all), api.OK)
	b.Cats = b.Cats[:63]
	checkMove(t, a, b, with(0, 0, 0, all), api.Context{}, api.ErrContext)
	checkMove(t, a, b, with(0, 0, 0, only(lvl(0, math.MaxUint64-1))), with(0, 0, 0, only(lvl(0, math.MaxUint64>>1))), api.OK)
}

// inWords writes a valid context as a text in which no categories are joined.
func inWords(p api.Policy, c api.Context) string {
	words := func(l api.Level) string {
		s, mark := p.Sens[l.Sens], ":"
		for n, name := range p.Cats {
			if l.Cats&(1<<n) != 0 {
				s, mark = s+mark+name, ","
			}
		}
		return s
	}
	return p.Users[c.User].Name + ":" + p.Roles[c.Role].Name + ":" + p.Types[c.Type].Name + ":" + words(c.Range.Low) + "-" + words(c.Range.High)
}

// P19.3, P19.6: Move returns what the names mean in the other policy, and is undone by moving back.
func TestModelOfMove(t *testing.T) {
	moved, refused, aliased := 0, 0, 0
	for seed := range 2000 {
		pick := newPicker(seed)
		a, b := pick.policy(t), pick.policy(t)
		for range 20 {
			c := pick.context(a)
			if code := modelCode(a, c); code != api.OK {
				checkMove(t, a, b, c, api.Context{}, code)
				continue
			}
			checkMove(t, a, a, c, c, api.OK)
			want, code := context.Parse(b, inWords(a, c))
			if code != api.OK {
				refused++
				checkMove(t, a, b, c, api.Context{}, api.ErrContext)
				continue
			}
			moved++
			checkMove(t, a, b, c, want, api.OK)
			if a.Types[c.Type].Name != b.Types[want.Type].Name {
				aliased++
				continue
			}
			checkMove(t, b, a, want, c, api.OK)
		}
	}
	if moved < 1000 || refused < 1000 || aliased < 100 {
		t.Errorf("got %d, %d, %d", moved, refused, aliased)
	}
}

// P1: any policies end without a panic.
func TestAnyPolicy(t *testing.T) {
	full := api.Set{math.MaxUint64, math.MaxUint64, math.MaxUint64, math.MaxUint64}
	wide := api.Range{High: lvl(math.MaxInt, math.MaxUint64)}
	policies := []api.Policy{
		{},
		{Users: make([]api.User, 3)},
		{Users: []api.User{{Name: "u", Roles: full, Range: wide}}, Roles: []api.Role{{Types: full}, {Types: full}}, Types: make([]api.Type, 2), Sens: []string{"", ""}, Cats: make([]string, 100)},
		{Users: []api.User{{Roles: full, Default: lvl(-1, 0), Range: wide}}, Roles: make([]api.Role, 300), Types: make([]api.Type, 300), Sens: []string{"s0"}},
		{Users: make([]api.User, 300), Types: make([]api.Type, 300), Roles: []api.Role{{Types: full}}, Sens: make([]string, 20), Sids: []api.InitialSid{{Context: with(-1, -1, -1, wide)}}},
	}
	contexts := []api.Context{{}, with(0, 1, 1, api.Range{}), with(0, 299, 299, api.Range{}), with(0, 0, 1, only(lvl(1, math.MaxUint64))), with(math.MinInt, math.MinInt, math.MaxInt, wide)}
	for _, p := range policies {
		for _, c := range contexts {
			if s, code := context.Text(p, c); code != api.OK && s != "" {
				t.Errorf("got %q, %v", s, code)
			}
			for _, q := range policies {
				if m, code := context.Move(p, q, c); code != api.OK && m != (api.Context{}) {
					t.Errorf("got %v, %v", m, code)
				}
			}
		}
		for _, s := range []string{":::", ":::s0", "u:::-", "u:r:t:s0"} {
			if c, code := context.Parse(p, s); code != api.OK && c != (api.Context{}) {
				t.Errorf("got %v, %v", c, code)
			}
		}
		for _, c := range context.All(p) {
			checkCode(t, p, c, api.OK)
		}
		context.Initial(p, "")
	}
}
