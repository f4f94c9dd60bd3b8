package binary_test

import (
	"math"
	"reflect"
	"slices"
	"testing"

	"accesscontrol/api"
	"accesscontrol/binary"
)

// downgraded returns a policy without what a version does not have, as the chapter describes it.
func downgraded(p api.Policy, version int) api.Policy {
	if version < 3 {
		p.Files, p.Asserts = nil, nil
	}
	if version == 1 {
		p.Ranges, p.Types = nil, slices.Clone(p.Types)
		for i := range p.Types {
			p.Types[i].Permissive = false
		}
		var l []api.Trans
		for _, x := range p.Trans {
			if x.Name == "" {
				l = append(l, x)
			}
		}
		p.Trans = l
	}
	return p
}

func checkDowngrade(t *testing.T, p api.Policy, version int, want api.Policy) {
	t.Helper()
	if q, code := binary.Downgrade(p, version); !same(q, want) || code != api.OK {
		t.Errorf("Downgrade(%s, %d): got %s, %v, want %s", brief(p), version, brief(q), code, brief(want))
	}
}

// P25.5: what each version does not have.
func TestDowngrade(t *testing.T) {
	p := full()
	p.Trans = []api.Trans{p.Trans[1], p.Trans[0], p.Trans[1], p.Trans[1], p.Trans[0], {Kind: api.TransCreate, Source: api.Set{2}, Target: api.Set{1}}}
	checkValid(t, p)
	checkDowngrade(t, p, 3, p)
	checkDowngrade(t, p, 2, changed(p, func(q *api.Policy) { q.Files, q.Asserts = nil, nil }))
	checkDowngrade(t, p, 1, changed(p, func(q *api.Policy) {
		q.Files, q.Asserts, q.Ranges = nil, nil, nil
		q.Types = []api.Type{q.Types[0], {Name: "b"}}
		q.Trans = []api.Trans{q.Trans[1], q.Trans[4], q.Trans[5]}
	}))
	for _, version := range []int{1, 2, 3} {
		checkDowngrade(t, plain(), version, plain())
		for _, x := range additions() {
			p := plain()
			x.change(&p)
			checkDowngrade(t, p, version, downgraded(p, version))
			if q, _ := binary.Downgrade(p, version); same(p, q) != (version >= x.least) {
				t.Errorf("Downgrade(%s, %d): got %s", brief(p), version, brief(q))
			}
		}
	}
	checkDowngrade(t, linked(t, ""), 1, linked(t, ""))
}

// P25.5: the errors, in their order. Those of policies that are not valid are tested for all functions together.
func TestErrorsOfDowngrade(t *testing.T) {
	for _, version := range []int{0, 4, -1, math.MinInt, math.MaxInt, 257} {
		for _, p := range []api.Policy{plain(), full(), {}} {
			if q, code := binary.Downgrade(p, version); !same(q, api.Policy{}) || code != api.ErrVersion {
				t.Errorf("Downgrade(%s, %d): got %s, %v", brief(p), version, brief(q), code)
			}
		}
	}
	repeated := changed(full(), func(p *api.Policy) { p.Asserts = append(p.Asserts, p.Asserts...) })
	if q, code := binary.Downgrade(repeated, 1); !same(q, api.Policy{}) || code != api.ErrTwice {
		t.Errorf("got %s, %v", brief(q), code)
	}
}

// P25.5, P25.6: random policies, downgraded to each version.
func TestDowngradeOfRandomPolicies(t *testing.T) {
	changes := 0
	for seed := range 600 {
		p := newPicker(seed).policy(t, 1+seed%3)
		least, _ := binary.Least(p)
		for _, version := range []int{1, 2, 3} {
			checkDowngrade(t, p, version, downgraded(p, version))
			q, _ := binary.Downgrade(p, version)
			if n, code := binary.Least(q); n > version || code != api.OK {
				t.Errorf("seed %d, version %d: Least: got %d, %v", seed, version, n, code)
			}
			if same(p, q) != (version >= least) {
				t.Errorf("seed %d, version %d: got %s of %s", seed, version, brief(q), brief(p))
			}
			if !same(p, q) {
				changes++
			}
			checkDecode(t, encoded(t, q, version), q, version, api.OK)
		}
	}
	if changes < 100 {
		t.Errorf("only %d policies are changed", changes)
	}
}

// P25.5: the argument is not changed, and shares no memory with the result.
func TestMemoryOfDowngrade(t *testing.T) {
	for _, version := range []int{1, 2, 3} {
		p := full()
		p.Trans = slices.Grow(append(p.Trans, p.Trans...), 10)
		want := full()
		want.Trans = append(want.Trans, want.Trans...)
		q, _ := binary.Downgrade(p, version)
		if !same(p, want) {
			t.Errorf("version %d: the policy is changed", version)
		}
		scribble(reflect.ValueOf(q))
		if !same(p, want) {
			t.Errorf("version %d: the policy shares memory with the result", version)
		}
	}
}
