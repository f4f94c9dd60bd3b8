package server_test

import (
	"math"
	"reflect"
	"testing"

	"accesscontrol/api"
	"accesscontrol/compiler"
	"accesscontrol/server"
)

// The examples of the chapter, and the last one of the document.
func TestExamples(t *testing.T) {
	s := started(t, 16, small)
	checkPolicy(t, s, 1, policy(t, small), false)
	for n, text := range []string{"root:system:init_t:s0", "root:object_r:file_t:s0", "root:object_r:file_t:s0"} {
		checkContext(t, s, n+1, text)
		checkText(t, s, n+1, text, api.OK)
	}
	checkSid(t, s, "root:system:user_t:s0", 4, api.OK)
	checkAccess(t, s, 4, 2, 1, api.Decision{AuditDeny: 255, Seq: 1}, api.OK)
	set(t, s, "share", true)
	checkAccess(t, s, 4, 2, 1, api.Decision{Allowed: 1, AuditDeny: 255, Seq: 2}, api.OK)
	checkPolicy(t, s, 2, policy(t, small), true)

	checkCode(t, "Begin", s.Begin(encoded(t, other)), api.OK)
	checkCode(t, "Commit", s.Commit(), api.ErrState)
	checkStep(t, s, api.OK)
	checkCode(t, "Commit", s.Commit(), api.OK)
	checkContext(t, s, 4, "root:object_r:net_t:s0")
}

// P29.5: a change of booleans gives the policy a further number, also if nothing else changes.
func TestSetBools(t *testing.T) {
	s := started(t, 16, other)
	for n, c := range []struct {
		l    []api.Bool
		want []bool
	}{
		{nil, []bool{true, true, false}},
		{[]api.Bool{{Name: "debug", Value: true}}, []bool{true, true, false}}, // as before
		{[]api.Bool{{Name: "trace", Value: true}}, []bool{true, true, true}},
		{[]api.Bool{{Name: "share"}, {Name: "debug"}}, []bool{false, false, true}},
		{[]api.Bool{{Name: "share", Value: true}, {Name: "share"}, {Name: "debug"}, {Name: "debug", Value: true}}, []bool{true, false, true}},
		{[]api.Bool{}, []bool{true, false, true}},
	} {
		checkCode(t, "SetBools", s.SetBools(c.l), api.OK)
		checkPolicy(t, s, n+2, policy(t, other), c.want...)
		checkStats(t, s, 0, 0, 0, n+2)
	}
}

// P29.5: nothing has changed after an error.
func TestSetBoolsErrors(t *testing.T) {
	s := started(t, 16, other)
	checkAccess(t, s, 3, 1, 1, api.Decision{Allowed: 2, AuditDeny: 15, Seq: 1}, api.OK)
	for _, l := range [][]api.Bool{{{Name: "none"}}, {{Name: ""}}, {{Name: "share"}, {Name: "none"}}, {{Name: "none"}, {Name: "share"}}, {{Name: "Share"}}} {
		checkCode(t, "SetBools", s.SetBools(l), api.ErrNone)
	}
	checkPolicy(t, s, 1, policy(t, other), true, true, false)
	checkAccess(t, s, 3, 1, 1, api.Decision{Allowed: 2, AuditDeny: 15, Seq: 1}, api.OK)
	checkStats(t, s, 1, 1, 0, 1)
	s = started(t, 16, bare) // without booleans
	checkCode(t, "SetBools", s.SetBools([]api.Bool{{Name: "share"}}), api.ErrNone)
	checkCode(t, "SetBools", s.SetBools(nil), api.OK)
	checkPolicy(t, s, 2, policy(t, bare))
}

// P29.6: the least identifier of a context that a text denotes, or a further one.
func TestSid(t *testing.T) {
	s := started(t, 16, full)
	sids(t, s, 1, "u:q:a:s0", "u:object_r:c:s1", "u:object_r:b:s0", "u:r:c:s0-s1:c0.c8", "v:q:a:s1")
	sids(t, s, 4, "u:r:d:s0-s1:c0.c8") // d is an alias
	sids(t, s, 5, "v:q:a:s1-s1")
	for text, code := range map[string]api.Errno{
		"":                      api.ErrSyntax,
		"u:q:a":                 api.ErrSyntax,
		"w:q:a:s0":              api.ErrNone,
		"u:s:a:s0":              api.ErrNone,
		"u:q:e:s0":              api.ErrNone,
		"u:q:a:s2":              api.ErrNone,
		"u:q:a:s1-s0":           api.ErrLevel,
		"u:q:c:s0":              api.ErrContext, // a type that the role does not have
		"v:r:b:s0":              api.ErrContext, // a role that the user does not have
		"v:q:a:s0:c0":           api.ErrContext, // a range that the user does not have
		"root:system:user_t:s0": api.ErrNone,
	} {
		checkSid(t, s, text, 0, code)
	}
	sids(t, s, 6, "v:object_r:init_t:s1:c8") // the errors have added nothing
}

// P29.6: ErrFull if there is no identifier for a context, and no room.
func TestSidFull(t *testing.T) {
	s := started(t, 16, full)
	fill(t, s)
	checkSid(t, s, "v:object_r:a:s0", 0, api.ErrFull)
	checkSid(t, s, "v:object_r:a:s9", 0, api.ErrNone)
	checkSid(t, s, "u:object_r:c:s1", 2, api.OK)
	checkSid(t, s, ranges()[1000], 1003, api.OK)
}

// P29.6: identifiers that do not exist, and those that are not mapped, with and without unlabeled.
func TestContext(t *testing.T) {
	s := started(t, 16, full)
	sids(t, s, 4, "u:q:b:s0-s1")
	check := func(s *server.Server) {
		t.Helper()
		for _, n := range []int{0, -1, 5, 64, math.MaxInt, math.MinInt} {
			checkNoContext(t, s, n, api.ErrNone)
			checkText(t, s, n, "", api.ErrNone)
			checkAccess(t, s, n, 1, 0, api.Decision{}, api.ErrNone)
			checkProcess(t, s, n, 1, 0, api.ErrNone)
		}
	}
	check(s)
	for n, text := range []string{"u:q:a:s0", "u:object_r:c:s1", "u:object_r:b:s0", "u:q:b:s0-s1"} {
		checkContext(t, s, n+1, text)
		checkText(t, s, n+1, text, api.OK)
	}
	load(t, s, small)
	check(s)
	checkContext(t, s, 1, "root:system:init_t:s0")
	checkContext(t, s, 4, "root:object_r:file_t:s0") // unlabeled
	checkText(t, s, 4, "u:q:b:s0-s1", api.OK)
	load(t, s, bare)
	check(s)
	checkNoContext(t, s, 1, api.ErrContext)
	checkContext(t, s, 2, "root:object_r:file_t:s0")
	checkNoContext(t, s, 4, api.ErrContext)
	checkText(t, s, 4, "u:q:b:s0-s1", api.OK)
}

// P29.7: decisions follow from contexts, the state and the policy, and are stored for both identifiers and the class.
func TestAccess(t *testing.T) {
	s := started(t, 16, full)
	sids(t, s, 4, "u:q:b:s0", "u:object_r:a:s0")
	forA := api.Decision{Allowed: 1, AuditDeny: 3, Seq: 1}
	forB := api.Decision{Allowed: 1, AuditDeny: 3, Permissive: true, Seq: 1}
	checkAccess(t, s, 1, 2, 1, forA, api.OK)
	checkAccess(t, s, 4, 2, 1, forB, api.OK)
	checkAccess(t, s, 2, 1, 1, api.Decision{AuditDeny: 3, Seq: 1}, api.OK)
	checkAccess(t, s, 1, 2, 2, api.Decision{AuditDeny: 1, Seq: 1}, api.OK)
	checkAccess(t, s, 1, 3, 1, api.Decision{Allowed: 2, AuditDeny: 3, Seq: 1}, api.OK)
	checkAccess(t, s, 5, 2, 1, forA, api.OK) // of an object
	checkStats(t, s, 0, 6, 0, 1)
	checkAccess(t, s, 1, 2, 1, forA, api.OK)
	checkAccess(t, s, 4, 2, 1, forB, api.OK)
	checkAccess(t, s, 5, 2, 1, forA, api.OK)
	checkStats(t, s, 3, 6, 0, 1)

	checkCode(t, "SetBools", s.SetBools([]api.Bool{{Name: "debug", Value: true}, {Name: "on"}}), api.OK)
	checkAccess(t, s, 1, 2, 1, api.Decision{Allowed: 1, AuditAllow: 1, AuditDeny: 1, Seq: 2}, api.OK)
	checkAccess(t, s, 1, 3, 1, api.Decision{AuditDeny: 3, Seq: 2}, api.OK)
	checkStats(t, s, 3, 8, 0, 2)
}

// P29.7: identifiers of the same context have decisions of their own in the cache.
func TestSameContexts(t *testing.T) {
	s := started(t, 2, small)
	d := api.Decision{Allowed: 17, AuditDeny: 255, Seq: 1}
	checkAccess(t, s, 1, 2, 1, d, api.OK)
	checkAccess(t, s, 1, 3, 1, d, api.OK)
	checkStats(t, s, 0, 2, 0, 1)
	checkAccess(t, s, 1, 2, 1, d, api.OK) // the last used one
	checkAccess(t, s, 1, 2, 2, api.Decision{AuditDeny: 255, Seq: 1}, api.OK)
	checkAccess(t, s, 1, 2, 1, d, api.OK)
	checkStats(t, s, 2, 3, 1, 1)
	checkAccess(t, s, 1, 3, 1, d, api.OK)
	checkStats(t, s, 2, 4, 2, 1)
}

// P29.7: identifiers that are not mapped are decided as unlabeled.
func TestAccessUnmapped(t *testing.T) {
	s := started(t, 16, small)
	sids(t, s, 4, "root:system:user_t:s0", "root:object_r:user_t:s0")
	load(t, s, other)
	d := api.Decision{Allowed: 2, AuditDeny: 15, Seq: 2}
	checkAccess(t, s, 1, 5, 1, d, api.OK)
	checkAccess(t, s, 1, 3, 1, d, api.OK)
	checkAccess(t, s, 4, 2, 1, api.Decision{AuditDeny: 15, Seq: 2}, api.OK)
	checkStats(t, s, 0, 3, 0, 2)
	load(t, s, bare)
	checkAccess(t, s, 4, 2, 0, api.Decision{Allowed: 1, AuditDeny: 1, Permissive: true, Seq: 3}, api.OK)
	checkAccess(t, s, 1, 2, 0, api.Decision{}, api.ErrContext)
	checkAccess(t, s, 2, 1, 0, api.Decision{}, api.ErrContext)
}

// P29.7: the order of errors; the cache is not asked.
func TestAccessErrors(t *testing.T) {
	s := started(t, 16, small)
	load(t, s, bare) // 1 is not mapped, and there is no unlabeled
	checkAccess(t, s, 2, 3, 0, api.Decision{AuditDeny: 1, Seq: 2}, api.OK)
	checkStats(t, s, 0, 1, 0, 2)
	for _, c := range []struct {
		source, target, class int
		want                  api.Errno
	}{
		{1, 2, 0, api.ErrContext},
		{1, 9, 0, api.ErrContext},
		{1, 9, 9, api.ErrContext},
		{2, 1, 0, api.ErrContext},
		{2, 1, 9, api.ErrContext},
		{9, 1, 0, api.ErrNone},
		{9, 1, 9, api.ErrNone},
		{9, 2, 0, api.ErrNone},
		{2, 9, 0, api.ErrNone},
		{2, 9, -1, api.ErrNone},
		{2, 3, 1, api.ErrClass},
		{2, 3, -1, api.ErrClass},
		{2, 3, math.MaxInt, api.ErrClass},
		{2, 3, math.MinInt, api.ErrClass},
	} {
		checkAccess(t, s, c.source, c.target, c.class, api.Decision{}, c.want)
	}
	checkStats(t, s, 0, 1, 0, 2)
}

// P29.8: the contexts of new processes.
func TestNewProcess(t *testing.T) {
	s := started(t, 16, small)
	sids(t, s, 4, "root:object_r:shell_t:s0")
	checkProcess(t, s, 1, 2, 1, api.OK) // no transition
	checkProcess(t, s, 1, 4, 5, api.OK)
	checkText(t, s, 5, "root:system:user_t:s0", api.OK)
	checkProcess(t, s, 1, 4, 5, api.OK)
	checkProcess(t, s, 5, 4, 5, api.OK)

	s = started(t, 16, full)
	checkProcess(t, s, 1, 2, 4, api.OK)
	checkText(t, s, 4, "u:r:b:s0", api.OK)
	set(t, s, "on", false)
	checkProcess(t, s, 1, 2, 0, api.ErrContext) // a type that the role does not have
	checkProcess(t, s, 1, 3, 1, api.OK)
	checkNoContext(t, s, 5, api.ErrNone)
}

// P29.8: the contexts of new objects.
func TestNewObject(t *testing.T) {
	s := started(t, 16, small)
	checkObject(t, s, 1, 2, 1, "log", 2, api.OK)
	checkObject(t, s, 1, 1, 1, "log", 4, api.OK)
	checkText(t, s, 4, "root:object_r:init_t:s0", api.OK)

	s = started(t, 16, full)
	checkObject(t, s, 1, 3, 1, "log", 4, api.OK)
	checkText(t, s, 4, "u:object_r:a:s1:c0", api.OK)
	checkObject(t, s, 1, 3, 1, "other", 5, api.OK)
	checkText(t, s, 5, "u:object_r:b:s1:c0", api.OK)
	checkObject(t, s, 1, 3, 2, "log", 3, api.OK) // another class
	checkObject(t, s, 1, 3, 1, "", 5, api.OK)
	set(t, s, "debug", true)
	checkObject(t, s, 1, 3, 1, "other", 6, api.OK)
	checkText(t, s, 6, "u:object_r:c:s1:c0", api.OK)
	checkObject(t, s, 1, 3, 1, "log", 4, api.OK)
}

// P29.8: the order of errors of NewProcess and NewObject.
func TestNewErrors(t *testing.T) {
	s := started(t, 16, small)
	load(t, s, bare) // 1 is not mapped, and there is no unlabeled; there is no class process
	for _, c := range []struct {
		source, target int
		want           api.Errno
	}{
		{1, 2, api.ErrContext}, {1, 9, api.ErrContext}, {9, 1, api.ErrNone}, {9, 2, api.ErrNone},
		{2, 1, api.ErrContext}, {2, 9, api.ErrNone}, {0, 2, api.ErrNone}, {2, 0, api.ErrNone}, {-1, math.MaxInt, api.ErrNone},
	} {
		checkProcess(t, s, c.source, c.target, 0, c.want)
		checkObject(t, s, c.source, c.target, 0, "log", 0, c.want)
		checkObject(t, s, c.source, c.target, 9, "log", 0, c.want)
	}
	checkProcess(t, s, 2, 3, 0, api.ErrClass)
	for _, class := range []int{1, -1, math.MaxInt, math.MinInt} {
		checkObject(t, s, 2, 3, class, "log", 0, api.ErrClass)
	}
	checkStats(t, s, 0, 0, 0, 2) // contexts are not decided

	s = started(t, 16, full)
	fill(t, s)
	checkProcess(t, s, 1, 2, 0, api.ErrFull)
	checkProcess(t, s, 1, 1, 1, api.OK)
	checkObject(t, s, 1, 3, 1, "log", 0, api.ErrFull)
	checkObject(t, s, 1, 3, 3, "log", 0, api.ErrClass)
}

// P29.8: what is not mapped counts as unlabeled for new contexts, too.
func TestNewUnmapped(t *testing.T) {
	s := started(t, 16, small)
	sids(t, s, 4, "root:object_r:user_t:s0")
	load(t, s, other)
	checkObject(t, s, 1, 4, 1, "log", 3, api.OK)
	checkProcess(t, s, 1, 4, 1, api.OK)
}

// P29.4, P29.9: results and arguments share no memory with a server.
func TestMemory(t *testing.T) {
	for src, name := range map[string]string{small: "share", other: "debug", full: "on"} {
		s := empty(t, 16)
		b := encoded(t, src)
		checkCode(t, "Load", s.Load(b), api.OK)
		clear(b)
		b = encoded(t, src)
		checkCode(t, "Begin", s.Begin(b), api.OK)
		clear(b)
		l := []api.Bool{{Name: name, Value: true}}
		checkCode(t, "SetBools", s.SetBools(l), api.OK)
		clear(l)
		state := s.State()
		c := s.Copy()
		spoil(s)
		checkPolicy(t, s, 2, policy(t, src), state...)
		checkPolicy(t, c, 2, policy(t, src), state...)
		spoil(c)
		checkStep(t, s, api.OK)
		checkCode(t, "Commit", s.Commit(), api.OK)
		checkPolicy(t, s, 3, policy(t, src), state...)
	}
}

// spoil changes all memory that a server gives away.
func spoil(s *server.Server) {
	p, _ := s.Policy()
	scribble(reflect.ValueOf(p))
	clear(s.State())
	_ = append(s.State(), true)
}

// scribble changes all memory that a value refers to, also behind its lists.
func scribble(v reflect.Value) {
	switch v.Kind() {
	case reflect.Struct:
		for i := range v.NumField() {
			scribble(v.Field(i))
		}
	case reflect.Slice:
		for i := range v.Len() {
			scribble(v.Index(i))
			v.Index(i).SetZero()
		}
		reflect.Append(v, reflect.Zero(v.Type().Elem()))
	}
}

// P29.9: a copy is equal and independent, with the load in progress, prepared or not.
func TestCopy(t *testing.T) {
	s := started(t, 2, small)
	set(t, s, "share", true)
	sids(t, s, 4, "root:system:user_t:s0")
	s.Access(4, 2, 1)
	s.Access(4, 2, 1)
	checkCode(t, "Begin", s.Begin(encoded(t, other)), api.OK)
	c := s.Copy()
	checkCode(t, "Commit", c.Commit(), api.ErrState)
	checkStep(t, s, api.OK)
	checkCode(t, "Commit", c.Commit(), api.ErrState) // it is s that was prepared
	d := s.Copy()
	checkCode(t, "Commit", s.Commit(), api.OK)
	set(t, s, "debug", false)
	sids(t, s, 6, "root:object_r:shell_t:s0", "root:object_r:init_t:s0")

	for _, x := range []*server.Server{c, d} {
		checkPolicy(t, x, 2, policy(t, small), true)
		checkStats(t, x, 1, 1, 0, 2)
		checkAccess(t, x, 4, 2, 1, api.Decision{Allowed: 1, AuditDeny: 255, Seq: 2}, api.OK)
		checkStats(t, x, 2, 1, 0, 2)
		checkNoContext(t, x, 5, api.ErrNone)
		set(t, x, "share", false)
	}
	checkStats(t, s, 1, 1, 0, 4)
	sids(t, d, 5, "root:object_r:shell_t:s0")
	sids(t, c, 5, "root:object_r:user_t:s0")
	checkCode(t, "Commit", d.Commit(), api.OK)
	checkPolicy(t, d, 4, policy(t, other), true, false, false)
	checkPolicy(t, s, 4, policy(t, other), false, true, false)
	checkText(t, d, 5, "root:object_r:shell_t:s0", api.OK)
	checkCode(t, "Cancel", c.Cancel(), api.OK)
	checkStep(t, d, api.ErrState)

	e := empty(t, 2).Copy()
	checkNoPolicy(t, e)
	checkQuestions(t, e, api.ErrState)
	checkCode(t, "Begin", e.Begin(encoded(t, small)), api.OK)
	e = e.Copy()
	checkStep(t, e, api.OK)
	checkCode(t, "Commit", e.Commit(), api.OK)
	checkPolicy(t, e, 1, policy(t, small), false)
}

// P29.9: a copy has a cache of the same size, with the same order of use.
func TestCopyOfCache(t *testing.T) {
	s := started(t, 2, small)
	s.Access(1, 1, 1)
	s.Access(1, 2, 1)
	s.Access(1, 1, 1)
	c := s.Copy()
	c.Access(1, 3, 1) // in place of 1, 2
	c.Access(1, 1, 1)
	checkStats(t, c, 2, 3, 1, 1)
	checkStats(t, s, 1, 2, 0, 1)
	s.Access(1, 2, 1)
	checkStats(t, s, 2, 2, 0, 1)
}

// A server that is nil, or that New did not return, returns ErrNil and zero values, and changes nothing.
func TestNil(t *testing.T) {
	source := started(t, 16, small)
	checkCode(t, "Begin", source.Begin(encoded(t, small)), api.OK)
	checkStep(t, source, api.OK)
	assigned := *source
	for name, s := range map[string]*server.Server{"nil": nil, "zero": {}, "assigned": &assigned} {
		t.Run(name, func(t *testing.T) {
			checkNoPolicy(t, s)
			checkQuestions(t, s, api.ErrNil)
			for _, b := range [][]byte{nil, encoded(t, small)} {
				checkCode(t, "Load", s.Load(b), api.ErrNil)
				checkCode(t, "Begin", s.Begin(b), api.ErrNil)
			}
			checkStep(t, s, api.ErrNil)
			checkCode(t, "Commit", s.Commit(), api.ErrNil)
			checkCode(t, "Cancel", s.Cancel(), api.ErrNil)
			if c := s.Copy(); c != nil {
				t.Errorf("Copy: got %v", c)
			}
		})
	}
	checkPolicy(t, source, 1, policy(t, small), false)
	checkCode(t, "Commit", source.Commit(), api.OK)
	if p, ok := source.Policy(); !ok || compiler.Size(p) == 0 {
		t.Errorf("Policy: got %v, %v", p, ok)
	}
}
