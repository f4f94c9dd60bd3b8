package binary_test

import (
	"fmt"
	"reflect"
	"testing"

	"accesscontrol/api"
	"accesscontrol/binary"
	"accesscontrol/linker"
	"accesscontrol/octet"
	"accesscontrol/syntax"
)

// small is the source of the examples.
const small = `class process { fork transition dyntransition send };
class file { read write create unlink execute entrypoint relabelfrom relabelto };
class dir { read write create unlink add remove relabelfrom relabelto };
sensitivity s0;
attribute domain;
type init_t, domain; type user_t, domain; type file_t; type shell_t;
bool share false;
role system types { init_t user_t };
user root roles { system } level s0 range s0;
allow domain self : process { fork send };
allow init_t { file_t shell_t } : file { read execute };
allow init_t user_t : process transition;
allow user_t shell_t : file entrypoint;
type_transition init_t shell_t : process user_t;
if share { allow user_t file_t : file read; }
sid kernel root:system:init_t:s0;
sid root root:object_r:file_t:s0;
sid unlabeled root:object_r:file_t:s0;
`

// linked returns the policy of statements.
func linked(t *testing.T, src string) api.Policy {
	t.Helper()
	l, f := syntax.Statements(src)
	if f.Code != api.OK {
		t.Fatalf("Statements(%q): got %v", src, f)
	}
	p, _, f := linker.Link([]api.Module{{Name: "m", Stmts: l}})
	if f.Code != api.OK {
		t.Fatalf("Link of %q: got %v", src, f)
	}
	return p
}

// plain is a policy that every version has, with an element in each list that version 1 has. Each call returns new memory.
func plain() api.Policy {
	high := api.Level{Sens: 1, Cats: 1 << 63}
	x, y := api.Expr{Op: api.ExprName}, api.Expr{Op: api.ExprName, A: 1}
	p := api.Policy{
		Classes:     []api.Class{{Name: "f", Perms: []string{"r", "w"}}},
		Types:       []api.Type{{Name: "a", Aliases: []string{"aa", "ab"}}, {Name: "b"}},
		Attrs:       []api.Attr{{Name: "at", Types: api.Set{3}}},
		Roles:       []api.Role{{Name: api.ObjectRole}, {Name: "m", Types: api.Set{2}, Next: api.Set{6}}, {Name: "n"}},
		Users:       []api.User{{Name: "u", Roles: api.Set{6}, Default: api.Level{Cats: 1 << 63}, Range: api.Range{High: high}}},
		Bools:       []api.Bool{{Name: "x", Value: true}, {Name: "y"}},
		Sens:        []string{"s", "t"},
		Conds:       []api.Expr{x, {Op: api.ExprNot, Kids: []api.Expr{{Op: api.ExprXor, Kids: []api.Expr{x, y}}}}},
		Rules:       []api.Rule{{Kind: api.RuleAllow, Source: api.Set{1}, Target: api.Set{2}, Self: true, Perms: 3, Cond: -2}, {Kind: api.RuleNeverAllow, Source: api.Set{2}, Target: api.Set{3}, Perms: 1}},
		Trans:       []api.Trans{{Kind: api.TransMember, Source: api.Set{1}, Target: api.Set{2}, Result: 1, Cond: 1}},
		RoleTrans:   []api.RoleTrans{{Roles: api.Set{2}, Types: api.Set{3}, Result: 2}},
		Constraints: []api.Constraint{{Perms: 2, Expr: api.Expr{Op: api.ExprCompare, A: 4, Rel: 2, B: 8}}, {Validate: true, Expr: api.Expr{Op: api.ExprIn, A: 12, Set: api.Set{2}}}},
		Sids:        []api.InitialSid{{Name: "k", Context: api.Context{Role: 1, Type: 1, Range: api.Range{High: high}}}},
	}
	for n := range api.MaxCats {
		p.Cats = append(p.Cats, "c"+string(rune('a'+n/8))+string(rune('a'+n%8)))
	}
	return p
}

// full is a policy that version 3 alone has, with an element in each list.
func full() api.Policy {
	p := plain()
	p.Types[1].Permissive = true
	p.Trans = append(p.Trans, api.Trans{Kind: api.TransCreate, Source: api.Set{2}, Target: api.Set{1}, Name: "log"})
	p.Ranges = []api.RangeTrans{{Source: api.Set{1}, Target: api.Set{3}, Range: api.Range{Low: api.Level{Cats: 1}, High: api.Level{Sens: 1, Cats: 129}}}}
	p.Files = []api.FileRule{{Pattern: "/e.*", Kind: api.FileSocket, Context: api.Context{Type: 1}}}
	p.Asserts = []api.Assert{{Name: "q", Kind: api.AssertSeparate, Source: api.Set{1}, Target: api.Set{2}}}
	return p
}

// changed returns a policy with a change.
func changed(p api.Policy, change func(*api.Policy)) api.Policy {
	change(&p)
	return p
}

// invalid are changes of policies after which linker.Check refuses them.
func invalid() []func(*api.Policy) {
	deep := api.Expr{Op: api.ExprName}
	for range api.MaxNest {
		deep = api.Expr{Op: api.ExprNot, Kids: []api.Expr{deep}}
	}
	return []func(*api.Policy){
		func(p *api.Policy) { *p = api.Policy{} },
		func(p *api.Policy) { p.Roles = nil },
		func(p *api.Policy) { p.Classes[0].Name = "" },
		func(p *api.Policy) { p.Types[0].Aliases[0] = "a" },
		func(p *api.Policy) { p.Users[0].Default.Sens = -1 },
		func(p *api.Policy) { p.Users[0].Roles = api.Set{1} },
		func(p *api.Policy) { p.Conds[0] = deep },
		func(p *api.Policy) { p.Conds[0].Op = api.ExprCompare },
		func(p *api.Policy) { p.Rules[0].Kind = -1 },
		func(p *api.Policy) { p.Rules[0].Perms = 4 },
		func(p *api.Policy) { p.Trans[0].Result = -1 },
		func(p *api.Policy) { p.Rules = make([]api.Rule, api.MaxRules+1) },
		func(p *api.Policy) { p.Constraints[0].Expr = api.Expr{} },
		func(p *api.Policy) { p.Sids[0].Context.Type = 0 },
		func(p *api.Policy) { p.Files = []api.FileRule{{}} },
		func(p *api.Policy) { p.Asserts = []api.Assert{{Name: "v", Kind: 1}} },
		func(p *api.Policy) { p.Ranges = []api.RangeTrans{{Source: api.Set{1}}} },
	}
}

func checkValid(t *testing.T, p api.Policy) {
	t.Helper()
	if code := linker.Check(p); code != api.OK {
		t.Fatalf("the policy is not valid: %v: %s", code, brief(p))
	}
}

// encoded returns the encoding of a policy that a version has.
func encoded(t *testing.T, p api.Policy, version int) []byte {
	t.Helper()
	b, code := binary.Encode(p, version)
	if code != api.OK {
		t.Fatalf("Encode(%s, %d): got %v", brief(p), version, code)
	}
	return b
}

// checkDecode checks what Decode returns.
func checkDecode(t *testing.T, b []byte, p api.Policy, version int, code api.Errno) {
	t.Helper()
	if q, n, e := binary.Decode(b); !same(q, p) || n != version || e != code {
		t.Errorf("Decode(%.200q): got %s, %d, %v, want %s, %d, %v", b, brief(q), n, e, brief(p), version, code)
	}
}

// refused checks the error of sealed bytes.
func refused(t *testing.T, body string, code api.Errno) {
	t.Helper()
	checkDecode(t, octet.Seal([]byte(body)), api.Policy{}, 0, code)
}

// unsealed returns the bytes without the checksum.
func unsealed(b []byte) string { return string(b[:len(b)-4]) }

// same reports whether two values are equal, where nil and empty slices are.
func same(x, y any) bool { return sameValues(reflect.ValueOf(x), reflect.ValueOf(y)) }

func sameValues(x, y reflect.Value) bool {
	if x.Kind() != y.Kind() || x.Kind() == reflect.Slice && x.Len() != y.Len() {
		return false
	}
	switch x.Kind() {
	case reflect.Slice:
		for i := range x.Len() {
			if !sameValues(x.Index(i), y.Index(i)) {
				return false
			}
		}
		return true
	case reflect.Struct:
		for i := range x.NumField() {
			if !sameValues(x.Field(i), y.Field(i)) {
				return false
			}
		}
		return true
	}
	return x.Equal(y)
}

// scribble changes all memory that a value refers to, also behind its lists.
func scribble(v reflect.Value) {
	switch v.Kind() {
	case reflect.Struct:
		for i := range v.NumField() {
			scribble(v.Field(i))
		}
	case reflect.Slice:
		for i := range v.Len() {
			scribble(v.Index(i))
			v.Index(i).SetZero()
		}
		reflect.Append(v, reflect.Zero(v.Type().Elem()))
	}
}

// brief writes the beginning of a value.
func brief(x any) string {
	s := fmt.Sprint(x)
	return s[:min(len(s), 800)]
}
