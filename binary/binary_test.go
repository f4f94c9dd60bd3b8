package binary_test

import (
	"reflect"
	"slices"
	"testing"

	"accesscontrol/api"
	"accesscontrol/binary"
	"accesscontrol/linker"
)

// P25.1: the versions, in new memory.
func TestVersions(t *testing.T) {
	for range 2 {
		l := binary.Versions()
		if !slices.Equal(l, []int{1, 2, 3}) {
			t.Errorf("got %v", l)
		}
		scribble(reflect.ValueOf(l))
	}
}

// additions are the changes of a policy after which it uses something that version 1 does not have, with the least version.
func additions() []struct {
	least  int
	change func(*api.Policy)
} {
	return []struct {
		least  int
		change func(*api.Policy)
	}{
		{2, func(p *api.Policy) { p.Types[1].Permissive = true }},
		{2, func(p *api.Policy) { p.Trans[0].Kind, p.Trans[0].Name = api.TransCreate, "log" }},
		{2, func(p *api.Policy) { p.Ranges = full().Ranges }},
		{3, func(p *api.Policy) { p.Files = full().Files }},
		{3, func(p *api.Policy) { p.Asserts = full().Asserts }},
	}
}

func checkLeast(t *testing.T, p api.Policy, want int) {
	t.Helper()
	if n, code := binary.Least(p); n != want || code != api.OK {
		t.Errorf("Least(%s): got %d, %v, want %d", brief(p), n, code, want)
	}
}

// P25.1: the least version is that of what the policy uses, alone or together.
func TestLeast(t *testing.T) {
	checkLeast(t, plain(), 1)
	checkLeast(t, full(), 3)
	for chosen := range 1 << len(additions()) {
		p, want := plain(), 1
		for n, x := range additions() {
			if chosen>>n&1 == 1 {
				x.change(&p)
				want = max(want, x.least)
			}
		}
		checkValid(t, p)
		checkLeast(t, p, want)
	}
	checkLeast(t, changed(plain(), func(p *api.Policy) { p.Types[0].Permissive, p.Types[1].Permissive = true, true }), 2)
	checkLeast(t, changed(plain(), func(p *api.Policy) {
		p.Trans = append(slices.Repeat(p.Trans, 5), api.Trans{Kind: api.TransCreate, Source: api.Set{1}, Target: api.Set{1}, Name: "x"})
	}), 2)
	checkLeast(t, api.Policy{Roles: []api.Role{{Name: api.ObjectRole}}}, 1)
}

// P25.1: the example of the chapter.
func TestLeastOfSmall(t *testing.T) {
	checkLeast(t, linked(t, small), 1)
	checkLeast(t, linked(t, small+"permissive user_t;"), 2)
	checkLeast(t, linked(t, small+"filecon \"/etc/.*\" any root:object_r:file_t:s0;"), 3)
	checkLeast(t, linked(t, small+"permissive user_t; filecon \"/etc/.*\" any root:object_r:file_t:s0;"), 3)
	checkLeast(t, linked(t, small+"type_transition init_t file_t : file shell_t \"log\";"), 2)
	checkLeast(t, linked(t, small+"range_transition init_t shell_t : process s0;"), 2)
	checkLeast(t, linked(t, small+"assert a noflow file_t user_t;"), 3)
}

// P25.1, P25.2, P25.5: policies that are not valid.
func TestInvalidPolicies(t *testing.T) {
	for i, spoil := range invalid() {
		p := changed(plain(), spoil)
		want := linker.Check(p)
		if want == api.OK {
			t.Errorf("%d: the policy is valid", i)
		}
		if n, code := binary.Least(p); n != 0 || code != want {
			t.Errorf("%d: Least: got %d, %v, want %v", i, n, code, want)
		}
		for _, version := range []int{1, 2, 3} {
			if b, code := binary.Encode(p, version); len(b) != 0 || code != want {
				t.Errorf("%d: Encode in %d: got %v, %v, want %v", i, version, b, code, want)
			}
			if q, code := binary.Downgrade(p, version); !same(q, api.Policy{}) || code != want {
				t.Errorf("%d: Downgrade to %d: got %v, %v, want %v", i, version, q, code, want)
			}
		}
	}
}
