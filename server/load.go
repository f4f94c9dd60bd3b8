package server

import (
	"accesscontrol/api"
	"accesscontrol/binary"
	"accesscontrol/clone"
)

// load is a load in progress.
type load struct {
	policy   api.Policy
	prepared bool
}

// Load loads a policy from its encoding, in one step.
func (s *Server) Load(b []byte) api.Errno {
	code := s.Begin(b)
	if code == api.OK {
		_, code = s.Step()
	}
	if code == api.OK {
		code = s.Commit()
	}
	return code
}

// Begin begins to load a policy; decisions still follow from the old one.
func (s *Server) Begin(b []byte) api.Errno {
	switch {
	case !s.made():
		return api.ErrNil
	case s.next != nil:
		return api.ErrState
	}
	p, _, code := binary.Decode(b)
	if code != api.OK {
		return code
	}
	s.next = &load{policy: p}
	return api.OK
}

// Step does a part of the work; true if nothing is left but Commit.
func (s *Server) Step() (bool, api.Errno) {
	if code := s.loading(); code != api.OK {
		return false, code
	}
	s.next.prepared = true
	return true, api.OK
}

// Commit replaces the policy.
func (s *Server) Commit() api.Errno {
	code := s.loading()
	switch {
	case code != api.OK:
		return code
	case !s.next.prepared:
		return api.ErrState
	}
	defer s.endLoad()
	return s.replace(s.next.policy)
}

// Cancel gives up.
func (s *Server) Cancel() api.Errno {
	if code := s.loading(); code != api.OK {
		return code
	}
	s.endLoad()
	return api.OK
}

// loading returns the error of a server without a load in progress.
func (s *Server) loading() api.Errno {
	switch {
	case !s.made():
		return api.ErrNil
	case s.next == nil:
		return api.ErrState
	}
	return api.OK
}

func (s *Server) endLoad() { s.next = nil }

// replace replaces the policy. What has been done of that is undone after an error.
func (s *Server) replace(p api.Policy) (code api.Errno) {
	before := s.loaded
	defer func() {
		if code != api.OK {
			s.loaded = before
		}
	}()
	code = s.adopt(p)
	if code == api.OK {
		code = s.renew()
	}
	return code
}

// copied returns a load in memory of its own; nil if there is none.
func (l *load) copied() *load {
	if l == nil {
		return nil
	}
	return &load{policy: clone.Policy(l.policy), prepared: l.prepared}
}
