package sidtab_test

import (
	"math"
	"reflect"
	"slices"
	"testing"

	"accesscontrol/api"
	"accesscontrol/bitset"
	"accesscontrol/linker"
	"accesscontrol/sidtab"
)

// wrong are contexts that are not valid in the policy of base, with their errors.
func wrong() map[api.Context]api.Errno {
	s0 := only(lvl(0, 0))
	return map[api.Context]api.Errno{
		with(2, 1, 0, s0):                           api.ErrRange,
		with(-1, 0, 0, s0):                          api.ErrRange,
		with(0, 4, 0, s0):                           api.ErrRange,
		with(0, -1, 0, s0):                          api.ErrRange,
		with(0, 0, 3, s0):                           api.ErrRange,
		with(0, 1, -1, s0):                          api.ErrRange,
		with(math.MinInt, math.MaxInt, 0, s0):       api.ErrRange,
		with(0, 1, 0, only(lvl(3, 0))):              api.ErrLevel,
		with(0, 1, 0, only(lvl(-1, 0))):             api.ErrLevel,
		with(0, 0, 0, only(lvl(0, 16))):             api.ErrLevel,
		with(0, 0, 0, api.Range{Low: lvl(1, 0)}):    api.ErrLevel,
		with(0, 3, 0, s0):                           api.ErrContext,
		with(0, 1, 2, s0):                           api.ErrContext,
		with(1, 2, 2, s0):                           api.ErrContext,
		with(0, 1, 0, only(lvl(2, 0))):              api.ErrContext,
		with(0, 1, 0, api.Range{High: lvl(1, 8)}):   api.ErrContext,
		with(1, 2, 2, api.Range{High: lvl(2, 1)}):   api.ErrContext,
		with(0, 2, 2, api.Range{High: lvl(2, 0)}):   api.ErrContext,
		with(0, 3, 2, only(lvl(2, 8))):              api.ErrContext,
		with(0, 1, 9, api.Range{Low: lvl(1, 0)}):    api.ErrRange,
		with(0, 3, 2, api.Range{Low: lvl(1, 1)}):    api.ErrLevel,
		with(1, 31, 255, only(lvl(15, 1<<63))):      api.ErrRange,
		with(0, 2, 2, only(lvl(1, math.MaxUint64))): api.ErrLevel,
	}
}

// P27.1: the initial identifiers, in their order; the beginning of the examples.
func TestNew(t *testing.T) {
	p := policy(t, small)
	x := table(t, p)
	checkTable(t, x, p, row{"kernel", "root:system:init_t:s0"}, row{"root", "root:object_r:file_t:s0"}, row{"unlabeled", "root:object_r:file_t:s0"})
	checkSid(t, x, parsed(t, p, "root:object_r:file_t:s0"), 2, api.OK)
	checkSid(t, x, parsed(t, p, "root:system:user_t:s0"), 4, api.OK)
	slices.Reverse(p.Sids)
	x = table(t, p)
	checkTable(t, x, p, row{"unlabeled", "root:object_r:file_t:s0"}, row{"root", "root:object_r:file_t:s0"}, row{"kernel", "root:system:init_t:s0"})
	checkSid(t, x, parsed(t, p, "root:object_r:file_t:s0"), 1, api.OK)
	p.Sids = nil
	x = table(t, p)
	checkTable(t, x, p)
	checkSid(t, x, parsed(t, p, "root:system:user_t:s0"), 1, api.OK)
	checkTable(t, x, p, row{"-", "root:system:user_t:s0"})
	q := policy(t, base+"sid k u:r1:d:s0-s1:c0,c2; sid j v:object_r:a:s0-s2:c0.c3; sid class_ v:r2:c:s1:c0.c1-s2:c3,c0.c1;")
	checkTable(t, table(t, q), q, row{"k", "u:r1:b:s0-s1:c0,c2"}, row{"j", "v:object_r:a:s0-s2:c0.c3"}, row{"class_", "v:r2:c:s1:c0.c1-s2:c0.c1,c3"})
}

// P27.1: there is no table if a context is not valid, wherever it stands.
func TestNewOfInvalidContexts(t *testing.T) {
	p := policy(t, base)
	for c, code := range wrong() {
		for at := range 3 {
			p.Sids = initials(3)
			p.Sids[at].Context = c
			if linker.Check(p) != code || sidtab.New(p) != nil {
				t.Errorf("New with %v at %d is a table", c, at)
			}
			p.Sids[at].Context = with(0, 1, 1, api.Range{High: lvl(1, 7)})
			table(t, p)
		}
	}
}

// P27.1: the limit of identifiers.
func TestNewOfMany(t *testing.T) {
	p := policy(t, base)
	for _, n := range []int{0, 1, 1023, 1024} {
		p.Sids = initials(n)
		x := table(t, p)
		if x.Len() != n {
			t.Errorf("Len: got %d, want %d", x.Len(), n)
		}
		for i, s := range p.Sids {
			checkRow(t, x, p, i+1, row{s.Name, "u:object_r:a:s0"})
		}
		checkNone(t, x, n+1)
	}
	for _, n := range []int{1025, 1026, 5000} {
		p.Sids = initials(n)
		if sidtab.New(p) != nil {
			t.Errorf("New with %d initial identifiers is a table", n)
		}
	}
}

// P27.2: identifiers are numbered in their order, and are given again; the least one is returned.
func TestSid(t *testing.T) {
	p := policy(t, base+"sid k u:r1:a:s0; sid m v:object_r:b:s1; sid n u:r1:a:s0;")
	x := table(t, p)
	texts := []string{"u:r1:a:s0", "v:object_r:b:s1", "u:r1:a:s0", "u:r1:b:s0", "u:object_r:a:s0", "v:object_r:a:s0", "u:r1:a:s0-s1", "u:r1:a:s1", "u:r1:a:s0:c0-s1:c0", "u:r1:a:s0-s1:c0", "v:r2:c:s1:c0.c1-s2:c0.c3"}
	for range 2 {
		for n, s := range texts {
			want := n + 1
			if want == 3 {
				want = 1
			}
			checkSid(t, x, parsed(t, p, s), want, api.OK)
		}
	}
	checkTable(t, x, p, row{"k", texts[0]}, row{"m", texts[1]}, row{"n", texts[2]}, row{"-", texts[3]}, row{"-", texts[4]}, row{"-", texts[5]},
		row{"-", texts[6]}, row{"-", texts[7]}, row{"-", texts[8]}, row{"-", texts[9]}, row{"-", texts[10]})
}

// P27.2: contexts that differ in any part have identifiers of their own.
func TestSidOfParts(t *testing.T) {
	p := policy(t, base)
	c := with(0, 1, 0, api.Range{Low: lvl(0, 1), High: lvl(1, 3)})
	x := table(t, p)
	checkSid(t, x, c, 1, api.OK)
	for n, change := range []func(*api.Context){
		func(c *api.Context) { c.Role = 0 }, func(c *api.Context) { c.Role, c.User = 0, 1 }, func(c *api.Context) { c.Type = 1 },
		func(c *api.Context) { c.Range.Low.Sens = 1 }, func(c *api.Context) { c.Range.Low.Cats = 2 },
		func(c *api.Context) { c.Range.High.Sens = 0 }, func(c *api.Context) { c.Range.High.Cats = 7 },
	} {
		d := c
		change(&d)
		checkSid(t, x, d, n+2, api.OK)
		checkSid(t, x, c, 1, api.OK)
	}
}

// P27.2: the errors of a context that is not valid; nothing has changed after them.
func TestSidErrors(t *testing.T) {
	p := policy(t, base+"sid k u:r1:a:s0;")
	x := table(t, p)
	for c, code := range wrong() {
		checkSid(t, x, c, 0, code)
	}
	checkTable(t, x, p, row{"k", "u:r1:a:s0"})
	checkSid(t, x, with(0, 2, 2, only(lvl(0, 0))), 2, api.OK)
}

// P27.2: ErrFull comes behind the error of the context, and only if the context has no identifier.
func TestSidOfFull(t *testing.T) {
	p := policy(t, base)
	for _, first := range []int{0, 1, 1000, 1024} {
		p.Sids = initials(first)
		x := table(t, p)
		contexts := many(p, 1025)
		if first > 0 {
			contexts = contexts[1:] // the initial one
		}
		for n := first; n < 1024; n++ {
			checkSid(t, x, contexts[n-first], n+1, api.OK)
		}
		for range 2 {
			checkSid(t, x, contexts[1024-first], 0, api.ErrFull)
			for c, code := range wrong() {
				checkSid(t, x, c, 0, code)
			}
			if x.Len() != 1024 {
				t.Errorf("Len: got %d", x.Len())
			}
			checkNone(t, x, 1025)
			for n := first; n < 1024; n++ {
				checkSid(t, x, contexts[n-first], n+1, api.OK)
			}
		}
	}
}

// many returns so many contexts of objects of the policy of base.
func many(p api.Policy, count int) []api.Context {
	var l []api.Context
	for high := range uint64(1) << len(p.Cats) {
		for low := range high + 1 {
			for n := range len(p.Users) * len(p.Types) * len(p.Sens) {
				if low&^high == 0 && len(l) < count {
					user, kind, sens := n%len(p.Users), n/len(p.Users)%len(p.Types), n/len(p.Users)/len(p.Types)
					l = append(l, with(user, 0, kind, api.Range{Low: lvl(0, low), High: lvl(sens, high)}))
				}
			}
		}
	}
	return l
}

// P27.3: what is asked of numbers that are no identifiers, and of those without a name.
func TestQuestions(t *testing.T) {
	p := policy(t, small)
	x := table(t, p)
	for _, sid := range []int{0, -1, 4, 5, 1024, 1025, -3, math.MaxInt, math.MinInt, 1 << 32, 1<<32 + 1} {
		checkNone(t, x, sid)
	}
	checkSid(t, x, parsed(t, p, "root:system:user_t:s0"), 4, api.OK)
	checkRow(t, x, p, 4, row{"-", "root:system:user_t:s0"})
	checkNone(t, x, 5)
	checkNone(t, table(t, api.Policy{}), 1)
}

// P27.5: copies have the same identifiers, and neither table affects the other one.
func TestCopy(t *testing.T) {
	p := policy(t, small)
	q := p
	q.Types = []api.Type{{Name: "file_t"}, {Name: "init_t"}}
	q.Roles = []api.Role{p.Roles[0], {Name: "system", Types: bitset.Of(1)}}
	q.Sids = []api.InitialSid{{Name: "more"}}
	user, shell, file := parsed(t, p, "root:system:user_t:s0"), parsed(t, p, "root:object_r:shell_t:s0"), parsed(t, p, "root:object_r:file_t:s0")
	x := table(t, p)
	rows := []row{{"kernel", "root:system:init_t:s0"}, {"root", "root:object_r:file_t:s0"}, {"unlabeled", "root:object_r:file_t:s0"}}
	y := x.Copy()
	checkSid(t, x, user, 4, api.OK)
	checkTable(t, y, p, rows...)
	checkSid(t, y, shell, 4, api.OK)
	checkSid(t, y, file, 2, api.OK)
	checkTable(t, x, p, append(rows[:3:3], row{"-", "root:system:user_t:s0"})...)
	checkTable(t, y, p, append(rows[:3:3], row{"-", "root:object_r:shell_t:s0"})...)
	checkSid(t, x, shell, 5, api.OK)
	checkSid(t, y, user, 5, api.OK)

	z := convert(t, x, p, q, 2)
	rows = append(rows, row{"-", "-root:system:user_t:s0"}, row{"-", "-root:object_r:shell_t:s0"}, row{"more", "root:object_r:file_t:s0"})
	c := z.Copy()
	checkTable(t, c, q, rows...)
	checkSid(t, z, parsed(t, q, "root:object_r:init_t:s0"), 7, api.OK)
	checkTable(t, c, q, rows...)
	checkSid(t, c, parsed(t, q, "root:object_r:file_t:s0"), 2, api.OK)
	for _, back := range []*sidtab.Table{convert(t, c, q, p, 0), convert(t, c.Copy().Copy(), q, p, 0)} {
		checkTable(t, back, p, rows[0], rows[1], rows[2], row{"-", "root:system:user_t:s0"}, row{"-", "root:object_r:shell_t:s0"}, rows[5])
	}
	checkTable(t, c, q, rows...)
}

// Methods of no table: ErrNil comes first, and nothing changes.
func TestNoTable(t *testing.T) {
	p := policy(t, small)
	x := table(t, p)
	assigned := *x
	bad := p
	bad.Sids = []api.InitialSid{{Name: "k", Context: with(9, 9, 9, api.Range{})}}
	for _, y := range []*sidtab.Table{nil, {}, new(sidtab.Table), &assigned} {
		for _, sid := range []int{0, 1, 2, 3, 4, -1} {
			checkNone(t, y, sid)
		}
		checkSid(t, y, parsed(t, p, "root:system:init_t:s0"), 0, api.ErrNil)
		checkSid(t, y, parsed(t, p, "root:system:user_t:s0"), 0, api.ErrNil)
		checkSid(t, y, with(9, 9, 9, api.Range{}), 0, api.ErrNil)
		checkFails(t, y, p, p, api.ErrNil)
		checkFails(t, y, p, bad, api.ErrNil)
		if y.Len() != 0 || y.Copy() != nil {
			t.Errorf("no table has %d identifiers, or a copy", y.Len())
		}
	}
	checkTable(t, x, p, row{"kernel", "root:system:init_t:s0"}, row{"root", "root:object_r:file_t:s0"}, row{"unlabeled", "root:object_r:file_t:s0"})
}

// spoil changes all that the lists of a policy have.
func spoil(p api.Policy) {
	for i := range p.Types {
		p.Types[i].Name = "spoilt"
		clear(p.Types[i].Aliases)
	}
	clear(p.Types)
	clear(p.Roles)
	clear(p.Users)
	clear(p.Sens)
	clear(p.Cats)
	clear(p.Sids)
}

// P27.1, P27.4: a table keeps no memory of its arguments, and does not write to them.
func TestMemory(t *testing.T) {
	source := base + "sid k u:r1:a:s0-s1:c0.c2;"
	p, q := policy(t, source), policy(t, source)
	x := table(t, p)
	if !reflect.DeepEqual(p, q) {
		t.Errorf("New has written to the policy")
	}
	spoil(p)
	c := parsed(t, q, "v:r2:c:s1:c0.c1-s2:c0.c3")
	checkSid(t, x, c, 2, api.OK)
	rows := []row{{"k", "u:r1:a:s0-s1:c0.c2"}, {"-", "v:r2:c:s1:c0.c1-s2:c0.c3"}}
	checkTable(t, x, q, rows...)
	a, b := policy(t, source), policy(t, source)
	y := convert(t, x, a, b, 0)
	if !reflect.DeepEqual(a, q) || !reflect.DeepEqual(b, q) {
		t.Errorf("Convert has written to the policies")
	}
	spoil(a)
	spoil(b)
	checkTable(t, y, q, rows...)
	checkSid(t, y, parsed(t, q, "u:r1:a:s0"), 3, api.OK)
	checkTable(t, x, q, rows...)
}

// Policies that are not valid are no reason for a panic.
func TestAnyPolicy(t *testing.T) {
	s := api.Set{math.MaxUint64, math.MaxUint64, math.MaxUint64, math.MaxUint64}
	names := make([]string, 300)
	policies := []api.Policy{
		{}, policy(t, small), policy(t, base), {Sids: make([]api.InitialSid, 3)},
		{Types: make([]api.Type, 300), Roles: make([]api.Role, 300), Users: make([]api.User, 300), Sens: names, Cats: names, Sids: make([]api.InitialSid, 1024)},
		{Types: make([]api.Type, 1), Roles: []api.Role{{Types: s}, {Types: s}}, Users: []api.User{{Roles: s}}, Sens: []string{"", ""}, Cats: names[:65], Sids: make([]api.InitialSid, 2)},
		{Types: make([]api.Type, 1), Roles: []api.Role{{}}, Users: make([]api.User, 1), Sids: make([]api.InitialSid, 2)},
		{Types: make([]api.Type, 1), Roles: []api.Role{{}}, Users: make([]api.User, 1), Sens: []string{"a", "a"}, Sids: make([]api.InitialSid, 1025)},
	}
	contexts := []api.Context{{}, {User: 1, Role: 1}, {Type: 299, Role: 299, User: 299, Range: only(lvl(299, math.MaxUint64))}, {User: -1}, {Range: api.Range{Low: lvl(0, 1)}}}
	for _, a := range policies {
		for _, b := range policies {
			x := sidtab.New(a)
			for _, c := range contexts {
				x.Sid(c)
			}
			y, _, _ := x.Convert(b, b)
			for _, z := range []*sidtab.Table{x, y, x.Copy(), y.Copy()} {
				for sid := range 6 {
					z.Context(sid)
					z.Text(sid)
					z.Name(sid)
				}
			}
		}
	}
}
