package server_test

import (
	"math"
	"slices"
	"strconv"
	"strings"
	"testing"

	"accesscontrol/api"
	"accesscontrol/binary"
	"accesscontrol/server"
)

// P29.1: a server has no policy at first; there is none for a size that a cache does not have.
func TestNew(t *testing.T) {
	for _, size := range []int{0, -1, 1025, math.MaxInt, math.MinInt} {
		if s := server.New(size); s != nil {
			t.Errorf("New(%d): got %v", size, s)
		}
	}
	for _, size := range []int{1, 2, 1024} {
		s := empty(t, size)
		checkNoPolicy(t, s)
		checkQuestions(t, s, api.ErrState)
		checkStep(t, s, api.ErrState)
		checkCode(t, "Commit", s.Commit(), api.ErrState)
		checkCode(t, "Cancel", s.Cancel(), api.ErrState)
		checkNoPolicy(t, s)
	}
}

// P29.1: the size is that of the cache.
func TestSize(t *testing.T) {
	for _, size := range []int{1, 2, 3, 7} {
		s := started(t, size, small)
		for range 2 {
			for n := range 3 {
				for m := range 3 {
					s.Access(n+1, m+1, 0)
				}
			}
		}
		checkStats(t, s, 0, 18, 18-size, 1)
	}
}

// P29.2: a load replaces the policy, also by itself, and by any version of the format.
func TestLoad(t *testing.T) {
	s := empty(t, 16)
	for n, src := range []string{small, small, other, bare, full, small} {
		load(t, s, src)
		p := policy(t, src)
		var state []bool
		for _, b := range p.Bools {
			state = append(state, b.Value)
		}
		if src == other {
			state[1] = false // as it was in small
		}
		checkPolicy(t, s, n+1, p, state...)
		checkStats(t, s, 0, 0, 0, n+1)
		checkStep(t, s, api.ErrState) // nothing is left in progress
	}
	for _, version := range binary.Versions() {
		b, _ := binary.Encode(policy(t, small), version)
		checkCode(t, "Load", s.Load(b), api.OK)
		checkPolicy(t, s, 6+version, policy(t, small), false)
	}
}

// P29.2, P29.3: what cannot be decoded is not loaded, with the error of decoding.
func TestDecode(t *testing.T) {
	codes := map[api.Errno]bool{}
	for name, b := range wrong(t) {
		_, _, want := binary.Decode(b)
		codes[want] = true
		s := empty(t, 16)
		checkCode(t, "Load with an error in "+name, s.Load(b), want)
		checkCode(t, "Begin with an error in "+name, s.Begin(b), want)
		checkStep(t, s, api.ErrState)
		checkNoPolicy(t, s)
		checkQuestions(t, s, api.ErrState)

		s = started(t, 16, small)
		set(t, s, "share", true)
		sids(t, s, 4, "root:system:user_t:s0")
		s.Access(4, 2, 1)
		checkCode(t, "Load with an error in "+name, s.Load(b), want)
		checkCode(t, "Begin with an error in "+name, s.Begin(b), want)
		checkStep(t, s, api.ErrState)
		checkPolicy(t, s, 2, policy(t, small), true)
		checkAccess(t, s, 4, 2, 1, api.Decision{Allowed: 1, AuditDeny: 255, Seq: 2}, api.OK)
		checkStats(t, s, 1, 1, 0, 2)
	}
	if len(codes) < 5 || codes[api.OK] {
		t.Errorf("the errors are %v", codes)
	}
}

// P29.3: the steps of a load, and what is an error in which of them.
func TestSteps(t *testing.T) {
	for _, first := range []bool{false, true} {
		s := empty(t, 16)
		seq := 0
		if !first {
			load(t, s, other)
			seq = 1
		}
		b := encoded(t, small)
		checkCode(t, "Begin", s.Begin(b), api.OK)
		checkCode(t, "Begin in a load", s.Begin(b), api.ErrState)
		checkCode(t, "Begin of nothing in a load", s.Begin(nil), api.ErrState)
		checkCode(t, "Load in a load", s.Load(b), api.ErrState)
		checkCode(t, "Load of nothing in a load", s.Load(nil), api.ErrState)
		checkCode(t, "Commit before Step", s.Commit(), api.ErrState)
		checkStep(t, s, api.OK)
		checkStep(t, s, api.OK)
		checkCode(t, "Begin in a load", s.Begin(b), api.ErrState)
		checkCode(t, "Load in a load", s.Load(b), api.ErrState)
		checkStep(t, s, api.OK)
		if s.Seq() != seq {
			t.Errorf("Seq: got %d, want %d", s.Seq(), seq)
		}
		checkCode(t, "Commit", s.Commit(), api.OK)
		checkPolicy(t, s, seq+1, policy(t, small), !first)
		checkStats(t, s, 0, 0, 0, seq+1)
		checkCode(t, "Commit again", s.Commit(), api.ErrState)
		checkStep(t, s, api.ErrState)
		checkCode(t, "Cancel", s.Cancel(), api.ErrState)
		load(t, s, small)
	}
}

// P29.3: a load that is given up changes nothing, whether it was prepared or not.
func TestCancel(t *testing.T) {
	for _, prepared := range []bool{false, true} {
		for _, src := range []string{small, other} {
			s := started(t, 16, small)
			checkCode(t, "Begin", s.Begin(encoded(t, src)), api.OK)
			if prepared {
				checkStep(t, s, api.OK)
			}
			checkCode(t, "Cancel", s.Cancel(), api.OK)
			checkCode(t, "Cancel again", s.Cancel(), api.ErrState)
			checkCode(t, "Commit", s.Commit(), api.ErrState)
			checkPolicy(t, s, 1, policy(t, small), false)
			checkStats(t, s, 0, 0, 0, 1)
			checkCode(t, "Begin", s.Begin(encoded(t, other)), api.OK)
			checkCode(t, "Commit before Step", s.Commit(), api.ErrState) // the step was that of the load that was given up
			checkStep(t, s, api.OK)
			checkCode(t, "Commit", s.Commit(), api.OK)
			checkPolicy(t, s, 2, policy(t, other), true, false, false)
		}
	}
}

// P29.3: what happens between Begin and Commit is not lost.
func TestBetween(t *testing.T) {
	s := started(t, 16, small)
	checkCode(t, "Begin", s.Begin(encoded(t, other)), api.OK)
	sids(t, s, 4, "root:system:user_t:s0")
	checkStep(t, s, api.OK)
	set(t, s, "share", true)
	sids(t, s, 5, "root:object_r:shell_t:s0")
	checkCode(t, "Commit", s.Commit(), api.OK)
	checkPolicy(t, s, 3, policy(t, other), true, true, false)
	checkText(t, s, 4, "root:system:user_t:s0", api.OK)
	checkText(t, s, 5, "root:object_r:shell_t:s0", api.OK)
	checkText(t, s, 6, "root:object_r:net_t:s0", api.OK)
}

// Replacing: booleans keep the values that they have, by their names; other ones have those of the policy.
func TestBooleans(t *testing.T) {
	s := started(t, 16, "module m 1; class file { read }; bool a false; bool b true; bool c false; bool d true;")
	checkCode(t, "SetBools", s.SetBools([]api.Bool{{Name: "b"}, {Name: "c", Value: true}}), api.OK)
	load(t, s, "module m 1; class file { read }; bool e true; bool d false; bool c false; bool f false; bool b true; bool a true;")
	checkPolicy(t, s, 3, policy(t, "module m 1; class file { read }; bool e true; bool d false; bool c false; bool f false; bool b true; bool a true;"), true, true, true, false, false, false)
	load(t, s, "module m 1; class file { read };")
	load(t, s, "module m 1; class file { read }; bool c false; bool b true;") // the values from before are forgotten
	if got := s.State(); !slices.Equal(got, []bool{false, true}) {
		t.Errorf("State: got %v", got)
	}
}

// Replacing: identifiers keep their contexts by names, and initial ones get those of the new policy.
func TestIdentifiers(t *testing.T) {
	s := started(t, 16, small)
	sids(t, s, 4, "root:system:user_t:s0", "root:object_r:shell_t:s0", "root:object_r:user_t:s0")
	load(t, s, other)
	checkContext(t, s, 1, "root:system:init_t:s0")
	checkContext(t, s, 2, "root:object_r:file_t:s0")
	checkContext(t, s, 3, "root:object_r:net_t:s0")
	checkContext(t, s, 4, "root:object_r:net_t:s0") // not mapped
	checkContext(t, s, 5, "root:object_r:shell_t:s0")
	checkContext(t, s, 6, "root:object_r:net_t:s0") // not mapped
	checkContext(t, s, 7, "root:object_r:net_t:s0") // net is new
	checkNoContext(t, s, 8, api.ErrNone)
	checkText(t, s, 3, "root:object_r:net_t:s0", api.OK)
	checkText(t, s, 4, "root:system:user_t:s0", api.OK)
	checkText(t, s, 6, "root:object_r:user_t:s0", api.OK)
	checkSid(t, s, "root:system:user_t:s0", 0, api.ErrNone)
	sids(t, s, 3, "root:object_r:net_t:s0")

	load(t, s, bare)
	checkNoContext(t, s, 1, api.ErrContext) // neither init_t nor unlabeled
	checkContext(t, s, 2, "root:object_r:file_t:s0")
	checkContext(t, s, 4, "root:system:user_t:s0")
	checkText(t, s, 1, "root:system:init_t:s0", api.OK)
	load(t, s, small)
	for n, text := range []string{"root:system:init_t:s0", "root:object_r:file_t:s0", "root:object_r:file_t:s0", "root:system:user_t:s0", "root:object_r:shell_t:s0", "root:object_r:user_t:s0"} {
		checkContext(t, s, n+1, text)
	}
	checkText(t, s, 7, "root:object_r:net_t:s0", api.OK)
	checkContext(t, s, 7, "root:object_r:file_t:s0")
}

// withInitials returns full with so many initial identifiers more, all for the same context.
func withInitials(t *testing.T, count int) api.Policy {
	t.Helper()
	p := policy(t, full)
	for n := range count {
		p.Sids = append(p.Sids, api.InitialSid{Name: "i" + strconv.Itoa(n), Context: p.Sids[0].Context})
	}
	return p
}

// fill assigns identifiers until there are MaxSids.
func fill(t *testing.T, s *server.Server) {
	t.Helper()
	for _, text := range ranges() {
		if sid, _ := s.Sid(text); sid == api.MaxSids {
			return
		}
	}
	t.Fatal("there are not enough contexts")
}

// ranges returns more than MaxSids contexts of full.
func ranges() []string {
	var l []string
	for _, kind := range []string{"a", "b", "c"} {
		for n := range 512 {
			var cats []string
			for bit := range 9 {
				if n>>bit&1 == 1 {
					cats = append(cats, "c"+strconv.Itoa(bit))
				}
			}
			l = append(l, strings.TrimSuffix("u:object_r:"+kind+":s0:"+strings.Join(cats, ","), ":"))
		}
	}
	return l
}

// P29.2, P29.3: the error of replacing is ErrFull, if there would be too many identifiers; nothing has changed, and the load is ended.
func TestLoadFull(t *testing.T) {
	s := empty(t, 16)
	checkCode(t, "Load", s.Load(encoding(t, withInitials(t, 0))), api.OK)
	fill(t, s)
	set(t, s, "debug", true)
	s.Access(1, 5, 1)
	more := encoding(t, withInitials(t, 1))
	last, _ := s.Text(api.MaxSids)
	check := func() {
		t.Helper()
		checkPolicy(t, s, 2, withInitials(t, 0), true, true)
		checkText(t, s, api.MaxSids, last, api.OK)
		checkNoContext(t, s, api.MaxSids+1, api.ErrNone)
		checkSid(t, s, "v:object_r:a:s0", 0, api.ErrFull)
		checkStep(t, s, api.ErrState)
		checkCode(t, "Cancel", s.Cancel(), api.ErrState)
	}
	checkCode(t, "Load", s.Load(more), api.ErrFull)
	check()
	checkCode(t, "Begin", s.Begin(more), api.OK)
	checkStep(t, s, api.OK)
	checkCode(t, "Commit", s.Commit(), api.ErrFull)
	check()
	if _, misses, _, resets := s.Stats(); misses != 1 || resets != 2 {
		t.Errorf("got %d misses, %d resets", misses, resets)
	}
	checkCode(t, "Load", s.Load(encoding(t, withInitials(t, 0))), api.OK)
	checkPolicy(t, s, 3, withInitials(t, 0), true, true)
	checkText(t, s, api.MaxSids, last, api.OK)
}

// A first policy may have MaxSids initial identifiers.
func TestManyInitials(t *testing.T) {
	s := empty(t, 16)
	checkCode(t, "Load", s.Load(encoding(t, withInitials(t, api.MaxSids-3))), api.OK)
	checkContext(t, s, api.MaxSids, "u:q:a:s0")
	checkSid(t, s, "u:q:b:s0", 0, api.ErrFull)
}
