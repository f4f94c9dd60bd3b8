package context_test

import (
	"slices"
	"strconv"
	"testing"

	"accesscontrol/api"
	"accesscontrol/bitset"
	"accesscontrol/context"
	"accesscontrol/level"
	"accesscontrol/linker"
	"accesscontrol/syntax"
)

// base declares the types a, b (aliases d, e), c, the roles object_r, r1, r2, r3, and the users u and v.
const base = `class file { read };
attribute x;
type a, x; type b alias { d e }, x; type c;
sensitivity s0; sensitivity s1; sensitivity s2;
category c0; category c1; category c2; category c3;
role r1 types { a b }; role r2 types c; role r3;
user u roles { r1 r2 } level s0 range s0-s1:c0.c2;
user v roles { r2 r3 } level s1:c1 range s1:c1-s2:c0.c3;
`

// small is the source of the examples.
const small = `class process { fork transition dyntransition send };
class file { read write create unlink execute entrypoint relabelfrom relabelto };
class dir { read write create unlink add remove relabelfrom relabelto };
sensitivity s0;
attribute domain;
type init_t, domain; type user_t, domain; type file_t; type shell_t;
bool share false;
role system types { init_t user_t };
user root roles { system } level s0 range s0;
sid kernel root:system:init_t:s0;
sid root root:object_r:file_t:s0;
sid unlabeled root:object_r:file_t:s0;
`

// policy returns the policy of a source.
func policy(t *testing.T, src string) api.Policy {
	t.Helper()
	l, f := syntax.Statements(src)
	if f.Code != api.OK {
		t.Fatalf("Statements(%q): got %v", src, f)
	}
	p, _, f := linker.Link([]api.Module{{Name: "m", Stmts: l}})
	if f.Code != api.OK {
		t.Fatalf("Link of %q: got %v", src, f)
	}
	return p
}

// lvl returns a level.
func lvl(sens int, cats uint64) api.Level { return api.Level{Sens: sens, Cats: cats} }

// only returns the range of one level.
func only(l api.Level) api.Range { return api.Range{Low: l, High: l} }

// with returns a context.
func with(user, role, kind int, r api.Range) api.Context {
	return api.Context{User: user, Role: role, Type: kind, Range: r}
}

func checkCode(t *testing.T, p api.Policy, c api.Context, want api.Errno) {
	t.Helper()
	if got := context.Check(p, c); got != want {
		t.Errorf("Check(%v): got %v, want %v", c, got, want)
	}
}

// checkText checks the text of a context; empty if there is an error.
func checkText(t *testing.T, p api.Policy, c api.Context, want string, code api.Errno) {
	t.Helper()
	if got, err := context.Text(p, c); got != want || err != code {
		t.Errorf("Text(%v): got %q, %v, want %q, %v", c, got, err, want, code)
	}
}

// checkParse checks the context of a text; zero if there is an error.
func checkParse(t *testing.T, p api.Policy, s string, want api.Context, code api.Errno) {
	t.Helper()
	if got, err := context.Parse(p, s); got != want || err != code {
		t.Errorf("Parse(%q): got %v, %v, want %v, %v", s, got, err, want, code)
	}
}

// checkMove checks where a context is moved; zero if there is an error.
func checkMove(t *testing.T, a, b api.Policy, c, want api.Context, code api.Errno) {
	t.Helper()
	if got, err := context.Move(a, b, c); got != want || err != code {
		t.Errorf("Move(%v): got %v, %v, want %v, %v", c, got, err, want, code)
	}
}

func checkAll(t *testing.T, p api.Policy, want []api.Context) {
	t.Helper()
	if got := context.All(p); !slices.Equal(got, want) {
		t.Errorf("All: got %v, want %v", got, want)
	}
}

// picker picks numbers below its argument, by a rule that the seed begins.
type picker func(int) int

func newPicker(seed int) picker {
	state := uint32(seed)
	return func(n int) int {
		state = state*1664525 + 1013904223
		return int(state>>16) % n
	}
}

// names picks at least one of so many names, in any order, and returns also those that are left.
func (pick picker) names(prefix string, count int) (l, rest []string) {
	for i := range count {
		l = slices.Insert(l, pick(len(l)+1), prefix+strconv.Itoa(i))
	}
	n := count - min(pick(count), pick(count))
	return l[:n], l[n:]
}

// set picks a set of the numbers from first to last.
func (pick picker) set(first, last int) api.Set {
	var s api.Set
	for n := first; n <= last; n++ {
		if pick(3) > 0 {
			s = bitset.With(s, n)
		}
	}
	return s
}

func (pick picker) level(sens, cats int) api.Level {
	return lvl(pick(sens), uint64(pick(1<<cats)))
}

func (pick picker) levels(sens, cats int) api.Range {
	low := pick.level(sens, cats)
	return api.Range{Low: low, High: level.Join(low, pick.level(sens, cats))}
}

// policy picks a valid policy. All of them have names of the same few.
func (pick picker) policy(t *testing.T) api.Policy {
	t.Helper()
	p := api.Policy{Roles: []api.Role{{Name: api.ObjectRole}}}
	types, aliases := pick.names("t", 6)
	for _, name := range types {
		p.Types = append(p.Types, api.Type{Name: name})
	}
	for _, alias := range aliases {
		at := &p.Types[pick(len(p.Types))]
		at.Aliases = append(at.Aliases, alias)
	}
	roles, _ := pick.names("r", 4)
	for _, name := range roles {
		p.Roles = append(p.Roles, api.Role{Name: name, Types: pick.set(0, len(types)-1)})
	}
	p.Sens, _ = pick.names("s", 3)
	p.Cats, _ = pick.names("c", 5)
	users, _ := pick.names("u", 3)
	for _, name := range users {
		r := pick.levels(len(p.Sens), len(p.Cats))
		inside := level.Join(r.Low, level.Meet(r.High, pick.level(len(p.Sens), len(p.Cats))))
		p.Users = append(p.Users, api.User{Name: name, Roles: pick.set(1, len(roles)), Default: inside, Range: r})
	}
	if code := linker.Check(p); code != api.OK {
		t.Fatalf("the policy is not valid: %v: %v", code, p)
	}
	return p
}

// context picks a context of a policy that may have any errors.
func (pick picker) context(p api.Policy) api.Context {
	c := with(pick(len(p.Users)), pick(len(p.Roles)), pick(len(p.Types)), pick.levels(len(p.Sens), len(p.Cats)))
	switch pick(16) {
	case 0:
		c.User = pick(len(p.Users)+2) - 1
	case 1:
		c.Role = pick(len(p.Roles)+2) - 1
	case 2:
		c.Type = pick(len(p.Types)+2) - 1
	case 3:
		c.Range.Low = pick.level(4, 6)
	case 4:
		c.Range.High = pick.level(4, 6)
	case 5:
		c.Range.Low, c.Range.High = c.Range.High, c.Range.Low
	}
	return c
}
