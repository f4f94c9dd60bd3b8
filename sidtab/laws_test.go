package sidtab_test

import (
	"slices"
	"testing"

	"accesscontrol/api"
	"accesscontrol/context"
	"accesscontrol/sidtab"
)

// model is a table by the definition.
type model struct {
	policy api.Policy
	sids   []identifier
}

type identifier struct {
	initial bool
	name    string
	mapped  bool
	home    api.Policy
	context api.Context // in the home
}

func newModel(p api.Policy) *model {
	m := &model{policy: p}
	for _, s := range p.Sids {
		m.sids = append(m.sids, identifier{true, s.Name, true, p, s.Context})
	}
	return m
}

func (m *model) sid(c api.Context) (int, api.Errno) {
	if code := context.Check(m.policy, c); code != api.OK {
		return 0, code
	}
	for n, s := range m.sids {
		if s.mapped && s.context == c {
			return n + 1, api.OK
		}
	}
	m.sids = append(m.sids, identifier{mapped: true, home: m.policy, context: c})
	return len(m.sids), api.OK
}

// convert returns the model of another policy, and how many identifiers are not mapped.
func (m *model) convert(b api.Policy) (*model, int) {
	c, lost := &model{policy: b}, 0
	for _, s := range m.sids {
		at := slices.IndexFunc(b.Sids, func(i api.InitialSid) bool { return s.initial && i.Name == s.name })
		moved, code := context.Move(s.home, b, s.context)
		switch {
		case at >= 0:
			s.mapped, s.home, s.context = true, b, b.Sids[at].Context
		case code == api.OK:
			s.mapped, s.home, s.context = true, b, moved
		default:
			s.mapped = false
			lost++
		}
		c.sids = append(c.sids, s)
	}
	for _, i := range b.Sids {
		if !slices.ContainsFunc(m.sids, func(s identifier) bool { return s.initial && s.name == i.Name }) {
			c.sids = append(c.sids, identifier{true, i.Name, true, b, i.Context})
		}
	}
	return c, lost
}

func (m *model) copy() *model { return &model{m.policy, slices.Clone(m.sids)} }

// check checks that a table agrees with a model.
func (m *model) check(t *testing.T, x *sidtab.Table) {
	t.Helper()
	var rows []row
	for _, s := range m.sids {
		text, _ := context.Text(s.home, s.context)
		r := row{"-", text}
		if s.initial {
			r.name = s.name
		}
		if !s.mapped {
			r.text = "-" + text
		}
		rows = append(rows, r)
	}
	checkTable(t, x, m.policy, rows...)
}

// P27.1 to P27.5: after each of many calls, a table says what the model says, and so does a copy.
func TestModel(t *testing.T) {
	lost, found, names := 0, 0, 0
	for seed := range 150 {
		pick := newPicker(seed)
		policies := []api.Policy{pick.policy(t), pick.policy(t), pick.policy(t)}
		m := newModel(policies[0])
		x := table(t, policies[0])
		for range 80 {
			switch pick(8) {
			case 0:
				b := policies[pick(3)]
				c, n := m.convert(b)
				before, y := x, convert(t, x, m.policy, b, n)
				m.check(t, before)
				if len(c.sids) > len(m.sids) {
					names++
				}
				m, x, lost = c, y, lost+n
			case 1:
				y, kept := x.Copy(), m.copy()
				c := pick.context(m.policy)
				want, code := m.sid(c)
				checkSid(t, x, c, want, code)
				kept.check(t, y)
				checkSid(t, y, c, want, code)
				x = y
			default:
				c, had := pick.context(m.policy), len(m.sids)
				want, code := m.sid(c)
				checkSid(t, x, c, want, code)
				if code == api.OK && len(m.sids) == had {
					found++
				}
			}
			m.check(t, x)
		}
	}
	if lost < 1000 || found < 500 || names < 100 {
		t.Errorf("%d identifiers were not mapped, %d were found, and names were added %d times", lost, found, names)
	}
}

// tables returns tables of two policies, the second one converted from a first one with some identifiers.
func (pick picker) tables(t *testing.T) (a, b api.Policy, x, y *sidtab.Table) {
	t.Helper()
	a, b = pick.policy(t), pick.policy(t)
	x = table(t, a)
	for range 12 {
		x.Sid(pick.context(a))
	}
	y, _, code := x.Convert(a, b)
	if code != api.OK {
		t.Fatalf("Convert: got %v", code)
	}
	for range 6 {
		y.Sid(pick.context(b))
	}
	return a, b, x, y
}

// P27.6: Context of Sid is the context; Sid of the context of an identifier is at most the identifier.
func TestContextOfSid(t *testing.T) {
	valid, less := 0, 0
	for seed := range 200 {
		pick := newPicker(seed)
		_, b, _, y := pick.tables(t)
		for range 20 {
			c := pick.context(b)
			sid, code := y.Sid(c)
			if code != api.OK {
				continue
			}
			valid++
			if got, ok := y.Context(sid); got != c || !ok || !y.Mapped(sid) {
				t.Errorf("Context(%d): got %v, %v, want %v", sid, got, ok, c)
			}
		}
		for sid := 1; sid <= y.Len(); sid++ {
			if !y.Mapped(sid) {
				continue
			}
			c, _ := y.Context(sid)
			n, code := y.Sid(c)
			if n > sid || n < 1 || code != api.OK {
				t.Errorf("Sid(Context(%d)): got %d, %v", sid, n, code)
			}
			if n < sid {
				less++
			}
		}
	}
	if valid < 1000 || less < 100 {
		t.Errorf("%d contexts are valid, %d identifiers are not the least ones", valid, less)
	}
}

// P27.6: converted to its own policy, a table has the same contexts of all identifiers that are not initial.
func TestConvertToSame(t *testing.T) {
	others, lost := 0, 0
	for seed := range 200 {
		pick := newPicker(seed)
		_, b, _, y := pick.tables(t)
		z, n, code := y.Convert(b, b)
		if code != api.OK || z.Len() != y.Len() {
			t.Fatalf("Convert: got %v", code)
		}
		for sid := 1; sid <= y.Len(); sid++ {
			if _, named := y.Name(sid); named {
				continue
			}
			before, _ := y.Context(sid)
			after, ok := z.Context(sid)
			if after != before || !ok || y.Mapped(sid) != z.Mapped(sid) {
				t.Errorf("Context(%d): got %v, %v, want %v", sid, after, ok, before)
			}
			others++
		}
		lost += n
	}
	if others < 500 || lost < 100 {
		t.Errorf("%d identifiers are not initial, %d are not mapped", others, lost)
	}
}

// P27.6: converted to another policy and back, an identifier has its context again, as long as types are found by their names.
func TestConvertBack(t *testing.T) {
	through, lost := 0, 0
	for seed := range 200 {
		pick := newPicker(seed)
		a, b, x, y := pick.tables(t)
		z, _, code := y.Convert(b, a)
		if code != api.OK {
			t.Fatalf("Convert: got %v", code)
		}
		for sid := 1; sid <= x.Len(); sid++ {
			c, _ := x.Context(sid)
			d, _ := y.Context(sid)
			_, named := x.Name(sid)
			if y.Mapped(sid) && !named && b.Types[d.Type].Name != a.Types[c.Type].Name {
				continue // found as an alias
			}
			if got, ok := z.Context(sid); got != c || !ok || !z.Mapped(sid) {
				t.Errorf("Context(%d): got %v, %v, want %v", sid, got, ok, c)
			}
			if y.Mapped(sid) {
				through++
			} else {
				lost++
			}
		}
	}
	if through < 300 || lost < 300 {
		t.Errorf("%d identifiers were mapped in the other policy, %d were not", through, lost)
	}
}
