package server_test

import (
	"maps"
	"math"
	"slices"
	"testing"

	"accesscontrol/api"
	"accesscontrol/binary"
	"accesscontrol/cache"
	"accesscontrol/condition"
	"accesscontrol/context"
	"accesscontrol/decide"
	"accesscontrol/newlabel"
	"accesscontrol/server"
	"accesscontrol/sidtab"
)

// model is a server by the definition. The cache has no decisions in it that are ever used.
type model struct {
	has    bool
	policy api.Policy
	values map[string]bool
	table  *sidtab.Table
	seq    int
	cache  *cache.Cache

	loads, prepared bool
	next            api.Policy
}

func newModel(size int) *model {
	return &model{cache: cache.New(size), values: map[string]bool{}}
}

func (m *model) copy() *model {
	c := *m
	c.table, c.cache, c.values = m.table.Copy(), m.cache.Copy(), map[string]bool{}
	for name, value := range m.values {
		c.values[name] = value
	}
	return &c
}

// state returns the values of the booleans in their order.
func (m *model) state() []bool {
	var l []bool
	for _, b := range m.policy.Bools {
		l = append(l, m.values[b.Name])
	}
	return l
}

func (m *model) changed() api.Errno {
	m.seq++
	return m.cache.Reset(m.seq)
}

func (m *model) load(b []byte) api.Errno {
	if m.loads {
		return api.ErrState
	}
	p, _, code := binary.Decode(b)
	if code != api.OK {
		return code
	}
	return m.replace(p)
}

func (m *model) begin(b []byte) api.Errno {
	if m.loads {
		return api.ErrState
	}
	p, _, code := binary.Decode(b)
	if code == api.OK {
		m.loads, m.prepared, m.next = true, false, p
	}
	return code
}

func (m *model) step() api.Errno {
	if !m.loads {
		return api.ErrState
	}
	m.prepared = true
	return api.OK
}

func (m *model) commit() api.Errno {
	if !m.loads || !m.prepared {
		return api.ErrState
	}
	m.loads = false
	return m.replace(m.next)
}

func (m *model) cancel() api.Errno {
	if !m.loads {
		return api.ErrState
	}
	m.loads = false
	return api.OK
}

func (m *model) replace(p api.Policy) api.Errno {
	table := sidtab.New(p)
	if table == nil {
		return api.ErrContext
	}
	if m.has {
		converted, _, code := m.table.Convert(m.policy, p)
		if code != api.OK {
			return code
		}
		table = converted
	}
	values := map[string]bool{}
	for _, b := range p.Bools {
		values[b.Name] = b.Value
		if old, ok := m.values[b.Name]; ok {
			values[b.Name] = old
		}
	}
	m.has, m.policy, m.values, m.table = true, p, values, table
	return m.changed()
}

func (m *model) setBools(l []api.Bool) api.Errno {
	if !m.has {
		return api.ErrState
	}
	for _, b := range l {
		if _, ok := m.values[b.Name]; !ok {
			return api.ErrNone
		}
	}
	for _, b := range l {
		m.values[b.Name] = b.Value
	}
	return m.changed()
}

func (m *model) sid(text string) (int, api.Errno) {
	if !m.has {
		return 0, api.ErrState
	}
	c, code := context.Parse(m.policy, text)
	if code != api.OK {
		return 0, code
	}
	return m.table.Sid(c)
}

func (m *model) context(sid int) (api.Context, api.Errno) {
	if !m.has {
		return api.Context{}, api.ErrState
	}
	if sid < 1 || sid > m.table.Len() {
		return api.Context{}, api.ErrNone
	}
	if m.table.Mapped(sid) {
		c, _ := m.table.Context(sid)
		return c, api.OK
	}
	c, ok := context.Initial(m.policy, "unlabeled")
	if !ok {
		return api.Context{}, api.ErrContext
	}
	return c, api.OK
}

func (m *model) text(sid int) (string, api.Errno) {
	if !m.has {
		return "", api.ErrState
	}
	text, ok := m.table.Text(sid)
	if !ok {
		return "", api.ErrNone
	}
	return text, api.OK
}

// access returns a decision, which is always decided again.
func (m *model) access(source, target, class int) (api.Decision, api.Errno) {
	s, code := m.context(source)
	if code != api.OK {
		return api.Decision{}, code
	}
	o, code := m.context(target)
	if code != api.OK {
		return api.Decision{}, code
	}
	if class < 0 || class >= len(m.policy.Classes) {
		return api.Decision{}, api.ErrClass
	}
	if _, ok := m.cache.Find(source, target, class); !ok {
		m.cache.Insert(source, target, class, api.Decision{Seq: m.seq})
	}
	d := decide.Access(m.policy, m.state(), s, o, class)
	d.Seq = m.seq
	return d, api.OK
}

func (m *model) newProcess(source, file int) (int, api.Errno) {
	return m.created(source, file, func(s, o api.Context) (api.Context, api.Errno) {
		return newlabel.Process(m.policy, m.state(), s, o)
	})
}

func (m *model) newObject(source, dir, class int, name string) (int, api.Errno) {
	return m.created(source, dir, func(s, o api.Context) (api.Context, api.Errno) {
		return newlabel.Object(m.policy, m.state(), s, o, class, name)
	})
}

func (m *model) created(source, target int, create func(s, o api.Context) (api.Context, api.Errno)) (int, api.Errno) {
	s, code := m.context(source)
	if code != api.OK {
		return 0, code
	}
	o, code := m.context(target)
	if code != api.OK {
		return 0, code
	}
	c, code := create(s, o)
	if code != api.OK {
		return 0, code
	}
	return m.table.Sid(c)
}

// check checks all that a server says without a change.
func (m *model) check(t *testing.T, s *server.Server) {
	t.Helper()
	if m.has {
		checkPolicy(t, s, m.seq, m.policy, m.state()...)
	} else if _, ok := s.Policy(); ok || s.Seq() != 0 || len(s.State()) > 0 {
		t.Error("there is a policy")
	}
	for sid := -1; sid < m.table.Len()+3; sid++ {
		want, code := m.context(sid)
		if got, err := s.Context(sid); got != want || err != code {
			t.Errorf("Context(%d): got %v, %v, want %v, %v", sid, got, err, want, code)
		}
		text, code := m.text(sid)
		checkText(t, s, sid, text, code)
	}
	hits, misses, evicted, resets := m.cache.Stats()
	checkStats(t, s, hits, misses, evicted, resets)
}

// sources are encodings that servers load.
func sources(t *testing.T) [][]byte {
	t.Helper()
	l := [][]byte{encoded(t, small), encoded(t, other), encoded(t, bare), encoded(t, full), encoding(t, withInitials(t, 20))}
	return append(l, encoded(t, "module m 1; class process { fork }; class file { read write }; sensitivity s0; type init_t; type file_t; bool share false; bool on true; bool debug false; role system types init_t; user root roles { system } level s0 range s0; allow init_t file_t : file *; sid unlabeled root:object_r:init_t:s0;"))
}

// texts are contexts of the sources, and such that are in none of them.
func texts() []string {
	return []string{
		"", "::", "root:system:init_t:s0", "root:system:user_t:s0", "root:object_r:file_t:s0", "root:object_r:shell_t:s0", "root:object_r:net_t:s0", "root:object_r:user_t:s0",
		"u:q:a:s0", "u:r:b:s1", "v:q:b:s0-s1", "v:object_r:d:s1", "v:r:b:s0", "u:object_r:a:s1-s0", "u:object_r:a:s0:c0", "u:object_r:a:s0:c1", "u:object_r:a:s0:c0,c1", "u:object_r:a:s0:c1,c0",
	}
}

// loading makes a call that is about loads, or about booleans, on a server and a model.
func (pick picker) loading(t *testing.T, s *server.Server, m *model, all [][]byte) (string, api.Errno) {
	t.Helper()
	b := all[pick(len(all))]
	switch pick(8) {
	case 0:
		code := s.Load(b)
		checkCode(t, "Load", code, m.load(b))
		return "Load", code
	case 1:
		code := s.Begin(b)
		checkCode(t, "Begin", code, m.begin(b))
		return "Begin", code
	case 2, 3:
		checkStep(t, s, m.step())
	case 4, 5:
		code := s.Commit()
		checkCode(t, "Commit", code, m.commit())
		return "Commit", code
	case 6:
		checkCode(t, "Cancel", s.Cancel(), m.cancel())
	default:
		l := pick.bools()
		code := s.SetBools(l)
		checkCode(t, "SetBools", code, m.setBools(l))
		return "SetBools", code
	}
	return "", api.OK
}

// bools picks a list of booleans.
func (pick picker) bools() []api.Bool {
	var l []api.Bool
	for range pick(3) {
		l = append(l, api.Bool{Name: []string{"share", "debug", "on", "trace", "share", "none"}[pick(6)], Value: pick(2) == 0})
	}
	return l
}

// sid picks an identifier of a model, or a number close to them.
func (pick picker) sid(m *model) int {
	if pick(40) == 0 {
		return []int{0, -1, math.MaxInt, math.MinInt, m.table.Len() + 1}[pick(5)]
	}
	return 1 + min(pick(m.table.Len()+1), pick(m.table.Len()+1), pick(m.table.Len()+1))
}

// question asks a server and a model for a decision or an identifier.
func (pick picker) question(t *testing.T, s *server.Server, m *model) {
	t.Helper()
	source, target, class := pick.sid(m), pick.sid(m), pick(4)-pick(40)/39
	switch pick(8) {
	case 0:
		text := texts()[pick(len(texts()))]
		want, code := m.sid(text)
		checkSid(t, s, text, want, code)
	case 1:
		want, code := m.newProcess(source, target)
		checkProcess(t, s, source, target, want, code)
	case 2:
		name := []string{"log", "other", ""}[pick(3)]
		want, code := m.newObject(source, target, class, name)
		checkObject(t, s, source, target, class, name, want, code)
	default:
		want, code := m.access(source, target, class)
		checkAccess(t, s, source, target, class, want, code)
	}
}

// P29.1 to P29.10: after each of many calls, a server says what the model says, and so does a copy.
func TestModel(t *testing.T) {
	all := append(sources(t), wrong(t)["the sum"], wrong(t)["the policy"])
	succeeded := map[string]int{}
	hits, unmapped := 0, 0
	for seed := range 150 {
		pick := newPicker(seed)
		size := 1 + pick(12)
		s, m := empty(t, size), newModel(size)
		for range 400 {
			switch pick(40) {
			case 0, 1, 2, 3:
				if call, code := pick.loading(t, s, m, all); code == api.OK {
					succeeded[call]++
				}
			case 4:
				c, n := s.Copy(), m.copy()
				pick.question(t, s, m)
				pick.loading(t, s, m, all)
				n.check(t, c)
				if pick(2) == 0 {
					s, m = c, n
				}
			default:
				pick.question(t, s, m)
			}
			if pick(4) == 0 {
				m.check(t, s)
			}
			for sid := range m.table.Len() {
				if !m.table.Mapped(sid + 1) {
					unmapped++
				}
			}
		}
		h, _, _, _ := s.Stats()
		hits += h
	}
	if succeeded["Load"] < 100 || succeeded["Begin"] < 100 || succeeded["Commit"] < 100 || succeeded["SetBools"] < 100 || hits < 1000 || unmapped < 1000 {
		t.Errorf("got %v, %d hits, %d identifiers that are not mapped", succeeded, hits, unmapped)
	}
}

// P29.11: between Begin and Commit, everything is as without Begin, also in the end, if the load is given up.
func TestAtomic(t *testing.T) {
	all := sources(t)
	for seed := range 40 {
		pick := newPicker(1000 + seed)
		s, m := empty(t, 5), newModel(5)
		if seed > 0 {
			checkCode(t, "Load", s.Load(all[seed%len(all)]), m.load(all[seed%len(all)]))
		}
		for range 4 {
			checkCode(t, "Begin", s.Begin(all[pick(len(all))]), api.OK)
			for range 40 {
				pick.question(t, s, m) // the model does not know of the load
				switch pick(10) {
				case 0:
					checkStep(t, s, api.OK)
				case 1:
					l := pick.bools()
					checkCode(t, "SetBools", s.SetBools(l), m.setBools(l))
				}
			}
			m.check(t, s)
			checkCode(t, "Cancel", s.Cancel(), api.OK)
			m.check(t, s)
		}
	}
}

// P29.11: a load that fails changes nothing.
func TestFailedLoads(t *testing.T) {
	s, m := empty(t, 5), newModel(5)
	first := encoding(t, withInitials(t, 0))
	checkCode(t, "Load", s.Load(first), m.load(first))
	fill(t, s)
	fillModel(m)
	bad := [][]byte{encoding(t, withInitials(t, 1)), encoded(t, other)} // other has the identifier net
	for _, name := range slices.Sorted(maps.Keys(wrong(t))) {
		bad = append(bad, wrong(t)[name])
	}
	pick := newPicker(7)
	for range 3 {
		for _, b := range bad {
			if s.Load(b) == api.OK {
				t.Error("Load succeeded")
			}
			if s.Begin(b) == api.OK {
				checkStep(t, s, api.OK)
				checkCode(t, "Commit", s.Commit(), api.ErrFull)
			}
			for range 20 {
				pick.question(t, s, m)
			}
		}
	}
	m.check(t, s)
	checkCode(t, "Load", s.Load(first), m.load(first))
	m.check(t, s)
}

// fillModel assigns the identifiers that fill assigns.
func fillModel(m *model) {
	for _, text := range ranges() {
		if sid, _ := m.sid(text); sid == api.MaxSids {
			return
		}
	}
}

// P29.12: with the same policy, an identifier always has the same context, and no other identifier that Sid returns has it.
func TestKeptIdentifiers(t *testing.T) {
	all := sources(t)
	for seed := range 30 {
		pick := newPicker(2000 + seed)
		s, m := empty(t, 5), newModel(5)
		for range 6 {
			b := all[pick(len(all))]
			checkCode(t, "Load", s.Load(b), m.load(b))
			p, _, _ := binary.Decode(b)
			found := map[int]string{}
			for range 60 {
				text := texts()[pick(len(texts()))]
				sid, code := s.Sid(text)
				m.sid(text)
				if code != api.OK {
					continue
				}
				c, _ := context.Parse(p, text)
				text, _ = context.Text(p, c)
				if old, ok := found[sid]; ok && old != text {
					t.Errorf("the identifier %d is given to %s and %s", sid, old, text)
				}
				found[sid] = text
				l := pick.bools()
				checkCode(t, "SetBools", s.SetBools(l), m.setBools(l))
				for sid, text := range found {
					checkText(t, s, sid, text, api.OK)
					checkSid(t, s, text, sid, api.OK)
				}
			}
			m.check(t, s)
		}
	}
}

// P29.10: decisions are those of the definition in all states of the booleans.
func TestDecisions(t *testing.T) {
	for _, src := range []string{small, other, bare, full} {
		p := policy(t, src)
		s := started(t, 1024, src)
		for _, c := range context.All(p) {
			text, _ := context.Text(p, c)
			s.Sid(text)
		}
		for n := range 1 << len(p.Bools) {
			state := condition.Numbered(p, n)
			var l []api.Bool
			for i, b := range p.Bools {
				l = append(l, api.Bool{Name: b.Name, Value: state[i]})
			}
			checkCode(t, "SetBools", s.SetBools(l), api.OK)
			if got := s.State(); !slices.Equal(got, state) {
				t.Errorf("State: got %v, want %v", got, state)
			}
			checkDecisions(t, s, p, state)
		}
	}
}

// checkDecisions checks the decisions for all identifiers and classes, twice.
func checkDecisions(t *testing.T, s *server.Server, p api.Policy, state []bool) {
	t.Helper()
	for range 2 {
		for n := 1; n <= api.MaxSids; n++ {
			subject, code := s.Context(n)
			if code != api.OK {
				break
			}
			for m := 1; m <= api.MaxSids; m++ {
				object, code := s.Context(m)
				if code != api.OK {
					break
				}
				for class := range p.Classes {
					want := decide.Access(p, state, subject, object, class)
					want.Seq = s.Seq()
					checkAccess(t, s, n, m, class, want, api.OK)
				}
			}
		}
	}
}
