package sidtab_test

import (
	"math"
	"slices"
	"strconv"
	"testing"

	"accesscontrol/api"
	"accesscontrol/bitset"
	"accesscontrol/context"
	"accesscontrol/level"
	"accesscontrol/linker"
	"accesscontrol/sidtab"
	"accesscontrol/syntax"
)

// small is the source of the examples.
const small = `class process { fork transition dyntransition send };
class file { read write create unlink execute entrypoint relabelfrom relabelto };
class dir { read write create unlink add remove relabelfrom relabelto };
sensitivity s0;
attribute domain;
type init_t, domain; type user_t, domain; type file_t; type shell_t;
bool share false;
role system types { init_t user_t };
user root roles { system } level s0 range s0;
allow domain self : process { fork send };
allow init_t { file_t shell_t } : file { read execute };
sid kernel root:system:init_t:s0;
sid root root:object_r:file_t:s0;
sid unlabeled root:object_r:file_t:s0;
`

// base declares the types a, b (aliases d, e), c, the roles object_r, r1, r2, r3, and the users u and v.
const base = `class file { read };
attribute x;
type a, x; type b alias { d e }, x; type c;
sensitivity s0; sensitivity s1; sensitivity s2;
category c0; category c1; category c2; category c3;
role r1 types { a b }; role r2 types c; role r3;
user u roles { r1 r2 } level s0 range s0-s1:c0.c2;
user v roles { r2 r3 } level s1:c1 range s1:c1-s2:c0.c3;
`

// policy returns the policy of a source.
func policy(t *testing.T, src string) api.Policy {
	t.Helper()
	l, f := syntax.Statements(src)
	if f.Code != api.OK {
		t.Fatalf("Statements(%q): got %v", src, f)
	}
	p, _, f := linker.Link([]api.Module{{Name: "m", Stmts: l}})
	if f.Code != api.OK {
		t.Fatalf("Link of %q: got %v", src, f)
	}
	return p
}

// parsed returns the context of a text.
func parsed(t *testing.T, p api.Policy, s string) api.Context {
	t.Helper()
	c, code := context.Parse(p, s)
	if code != api.OK {
		t.Fatalf("Parse(%q): got %v", s, code)
	}
	return c
}

// lvl returns a level.
func lvl(sens int, cats uint64) api.Level { return api.Level{Sens: sens, Cats: cats} }

// only returns the range of one level.
func only(l api.Level) api.Range { return api.Range{Low: l, High: l} }

// with returns a context.
func with(user, role, kind int, r api.Range) api.Context {
	return api.Context{User: user, Role: role, Type: kind, Range: r}
}

// table returns the table of a policy.
func table(t *testing.T, p api.Policy) *sidtab.Table {
	t.Helper()
	x := sidtab.New(p)
	if x == nil {
		t.Fatalf("New is nil")
	}
	return x
}

// convert returns a converted table, of which so many identifiers are not mapped.
func convert(t *testing.T, x *sidtab.Table, a, b api.Policy, lost int) *sidtab.Table {
	t.Helper()
	y, n, code := x.Convert(a, b)
	if y == nil || n != lost || code != api.OK {
		t.Fatalf("Convert: got %v, %d, %v, want %d not mapped", y, n, code, lost)
	}
	return y
}

// checkFails checks that Convert returns an error, and nothing else.
func checkFails(t *testing.T, x *sidtab.Table, a, b api.Policy, want api.Errno) {
	t.Helper()
	if y, n, code := x.Convert(a, b); y != nil || n != 0 || code != want {
		t.Errorf("Convert: got %v, %d, %v, want %v", y, n, code, want)
	}
}

// checkSid checks the identifier of a context; 0 if there is an error.
func checkSid(t *testing.T, x *sidtab.Table, c api.Context, want int, code api.Errno) {
	t.Helper()
	if got, err := x.Sid(c); got != want || err != code {
		t.Errorf("Sid(%v): got %d, %v, want %d, %v", c, got, err, want, code)
	}
}

// row is what a table says of an identifier: the name, "-" if it has none, and the text of the context in its home, with a minus in front of it if it is not mapped.
type row struct{ name, text string }

// checkTable checks what a table of a policy says of its identifiers, and of numbers that are none.
func checkTable(t *testing.T, x *sidtab.Table, p api.Policy, want ...row) {
	t.Helper()
	if x.Len() != len(want) {
		t.Errorf("Len: got %d, want %d", x.Len(), len(want))
	}
	for n, r := range want {
		checkRow(t, x, p, n+1, r)
	}
	for _, n := range []int{0, -1, len(want) + 1, len(want) + 64, math.MaxInt, math.MinInt} {
		checkNone(t, x, n)
	}
}

// checkRow checks what a table of a policy says of an identifier.
func checkRow(t *testing.T, x *sidtab.Table, p api.Policy, sid int, want row) {
	t.Helper()
	text, mapped := want.text, true
	if text[0] == '-' {
		text, mapped = text[1:], false
	}
	var c api.Context
	if mapped {
		c = parsed(t, p, text)
	}
	if got, ok := x.Context(sid); got != c || !ok {
		t.Errorf("Context(%d): got %v, %v, want %v", sid, got, ok, c)
	}
	if got := x.Mapped(sid); got != mapped {
		t.Errorf("Mapped(%d): got %v", sid, got)
	}
	if got, ok := x.Text(sid); got != text || !ok {
		t.Errorf("Text(%d): got %q, %v, want %q", sid, got, ok, text)
	}
	name, named := want.name, want.name != "-"
	if !named {
		name = ""
	}
	if got, ok := x.Name(sid); got != name || ok != named {
		t.Errorf("Name(%d): got %q, %v, want %q, %v", sid, got, ok, name, named)
	}
}

// checkNone checks that a table has no identifier of this number.
func checkNone(t *testing.T, x *sidtab.Table, sid int) {
	t.Helper()
	if c, ok := x.Context(sid); c != (api.Context{}) || ok {
		t.Errorf("Context(%d): got %v, %v", sid, c, ok)
	}
	if x.Mapped(sid) {
		t.Errorf("Mapped(%d): got true", sid)
	}
	if s, ok := x.Name(sid); s != "" || ok {
		t.Errorf("Name(%d): got %q, %v", sid, s, ok)
	}
	if s, ok := x.Text(sid); s != "" || ok {
		t.Errorf("Text(%d): got %q, %v", sid, s, ok)
	}
}

// initials returns so many initial identifiers with the names i0, i1 ..
func initials(count int) []api.InitialSid {
	var l []api.InitialSid
	for n := range count {
		l = append(l, api.InitialSid{Name: "i" + strconv.Itoa(n)})
	}
	return l
}

// picker picks numbers below its argument, by a rule that the seed begins.
type picker func(int) int

func newPicker(seed int) picker {
	state := uint32(seed)
	return func(n int) int {
		state = state*1664525 + 1013904223
		return int(state>>16) % n
	}
}

// names picks at least one of so many names, in any order, and returns also those that are left.
func (pick picker) names(prefix string, count int) (l, rest []string) {
	for i := range count {
		l = slices.Insert(l, pick(len(l)+1), prefix+strconv.Itoa(i))
	}
	n := count - min(pick(count), pick(count))
	return l[:n], l[n:]
}

// set picks a set of the numbers from first to last.
func (pick picker) set(first, last int) api.Set {
	var s api.Set
	for n := first; n <= last; n++ {
		if pick(4) > 0 {
			s = bitset.With(s, n)
		}
	}
	return s
}

func (pick picker) level(sens, cats int) api.Level {
	return lvl(pick(sens), uint64(pick(1<<cats)))
}

func (pick picker) levels(sens, cats int) api.Range {
	low := pick.level(sens, cats)
	return api.Range{Low: low, High: level.Join(low, pick.level(sens, cats))}
}

// policy picks a valid policy. All of them have names of the same few.
func (pick picker) policy(t *testing.T) api.Policy {
	t.Helper()
	p := api.Policy{Roles: []api.Role{{Name: api.ObjectRole}}}
	types, aliases := pick.names("t", 4)
	for _, name := range types {
		p.Types = append(p.Types, api.Type{Name: name})
	}
	for _, alias := range aliases {
		at := &p.Types[pick(len(p.Types))]
		at.Aliases = append(at.Aliases, alias)
	}
	roles, _ := pick.names("r", 2)
	for _, name := range roles {
		p.Roles = append(p.Roles, api.Role{Name: name, Types: pick.set(0, len(types)-1)})
	}
	p.Sens, _ = pick.names("s", 2)
	p.Cats, _ = pick.names("c", 2)
	users, _ := pick.names("u", 2)
	for _, name := range users {
		r := pick.levels(len(p.Sens), len(p.Cats))
		p.Users = append(p.Users, api.User{Name: name, Roles: pick.set(1, len(roles)), Default: r.Low, Range: r})
	}
	names, _ := pick.names("i", 4)
	for _, name := range names {
		c := pick.context(p)
		if len(p.Sids) > 0 && pick(2) == 0 {
			c = p.Sids[0].Context
		}
		if context.Check(p, c) == api.OK {
			p.Sids = append(p.Sids, api.InitialSid{Name: name, Context: c})
		}
	}
	if code := linker.Check(p); code != api.OK {
		t.Fatalf("the policy is not valid: %v: %v", code, p)
	}
	return p
}

// context picks a context of a policy that may have any errors.
func (pick picker) context(p api.Policy) api.Context {
	c := with(pick(len(p.Users)), pick(len(p.Roles)), pick(len(p.Types)), pick.levels(len(p.Sens), len(p.Cats)))
	switch pick(16) {
	case 0:
		c.User = pick(len(p.Users)+2) - 1
	case 1:
		c.Role = pick(len(p.Roles)+2) - 1
	case 2:
		c.Type = pick(len(p.Types)+2) - 1
	case 3:
		c.Range.Low, c.Range.High = c.Range.High, c.Range.Low
	}
	return c
}
