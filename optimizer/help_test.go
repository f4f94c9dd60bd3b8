package optimizer_test

import (
	"fmt"
	"reflect"
	"strconv"
	"testing"

	"accesscontrol/api"
	"accesscontrol/bitset"
	"accesscontrol/linker"
)

func number(n int) api.Expr { return api.Expr{Op: api.ExprName, A: n} }

func op(op int, kids ...api.Expr) api.Expr { return api.Expr{Op: op, Kids: kids} }

func not(x api.Expr) api.Expr { return op(api.ExprNot, x) }

func and(x, y api.Expr) api.Expr { return op(api.ExprAnd, x, y) }

func or(x, y api.Expr) api.Expr { return op(api.ExprOr, x, y) }

// joinedBy returns expressions joined by an operator, with as few levels as possible.
func joinedBy(operator int, l ...api.Expr) api.Expr {
	if len(l) == 1 {
		return l[0]
	}
	return op(operator, joinedBy(operator, l[:len(l)/2]...), joinedBy(operator, l[len(l)/2:]...))
}

// policy returns a policy with two classes, four types a to d, three booleans x, y, z, and all else that policies have. Each call returns new memory.
func policy(conds ...api.Expr) api.Policy {
	levels := api.Range{High: api.Level{Sens: 1, Cats: 1}}
	object := api.Context{Type: 1}
	return api.Policy{
		Classes:     []api.Class{{Name: "process", Perms: []string{"fork", "transition", "send"}}, {Name: "file", Perms: []string{"read", "write", "create"}}},
		Types:       []api.Type{{Name: "a", Aliases: []string{"aa"}}, {Name: "b"}, {Name: "c", Permissive: true}, {Name: "d"}},
		Attrs:       []api.Attr{{Name: "attr", Types: bitset.Of(0, 1)}},
		Roles:       []api.Role{{Name: api.ObjectRole}, {Name: "r", Types: bitset.All(4), Next: bitset.Of(2)}, {Name: "s", Types: bitset.Of(0)}},
		Users:       []api.User{{Name: "u", Roles: bitset.Of(1, 2), Range: levels}},
		Bools:       []api.Bool{{Name: "x"}, {Name: "y", Value: true}, {Name: "z"}},
		Sens:        []string{"s0", "s1"},
		Cats:        []string{"c0"},
		Conds:       conds,
		RoleTrans:   []api.RoleTrans{{Roles: bitset.Of(1), Types: bitset.Of(3), Result: 2}},
		Ranges:      []api.RangeTrans{{Source: bitset.Of(0), Target: bitset.Of(1), Class: 1, Range: levels}},
		Constraints: []api.Constraint{{Class: 1, Perms: 2, Expr: not(api.Expr{Op: api.ExprIn, A: api.AttrType, Set: bitset.Of(0, 2)})}},
		Sids:        []api.InitialSid{{Name: "kernel", Context: object}},
		Files:       []api.FileRule{{Pattern: "/.*", Context: object}},
		Asserts:     []api.Assert{{Name: "n", Kind: api.AssertNoFlow, Source: bitset.Of(0), Target: bitset.Of(1)}},
	}
}

// xyz are the conditions x, y, z, x && y, x || y, x == y, and one that is always, and one that is never true.
func xyz() []api.Expr {
	x, y, z := number(0), number(1), number(2)
	return []api.Expr{x, y, z, and(x, y), or(x, y), op(api.ExprSame, x, y), or(z, not(z)), and(z, not(z))}
}

// The Conds of xyz.
const (
	x = 1 + iota
	y
	z
	xAndY
	xOrY
	xSameY
	always
	never
)

// withRules returns the policy with the conditions xyz and with rules.
func withRules(l ...api.Rule) api.Policy {
	p := policy(xyz()...)
	p.Rules = l
	return p
}

// set returns the set of the types with letters, of which none stands for none.
func set(letters string) api.Set {
	var s api.Set
	for i := range len(letters) {
		s = bitset.With(s, int(letters[i]-'a'))
	}
	return s
}

// allow returns a rule for the class file, with the letters of types and of permissions: read, write, create. The letter s among the targets stands for self.
func allow(source, target, perms string, cond int) api.Rule {
	r := api.Rule{Kind: api.RuleAllow, Source: set(source), Class: 1, Cond: cond}
	for i := range len(target) {
		if target[i] == 's' {
			r.Self = true
		} else {
			r.Target = bitset.Union(r.Target, set(target[i:i+1]))
		}
	}
	for i := range len(perms) {
		switch perms[i] {
		case 'r':
			r.Perms |= 1
		case 'w':
			r.Perms |= 2
		case 'c':
			r.Perms |= 4
		}
	}
	return r
}

// kind returns a rule with another kind.
func kind(kind int, r api.Rule) api.Rule {
	r.Kind = kind
	return r
}

// class returns a rule with another class.
func class(class int, r api.Rule) api.Rule {
	r.Class = class
	return r
}

func checkValid(t *testing.T, p api.Policy) {
	t.Helper()
	if code := linker.Check(p); code != api.OK {
		t.Fatalf("the policy is not valid: %v: %s", code, brief(p))
	}
}

// full returns a policy with as many types, classes, permissions and booleans as there may be.
func full() api.Policy {
	p := api.Policy{Roles: []api.Role{{Name: api.ObjectRole}}}
	for i := range api.MaxTypes {
		p.Types = append(p.Types, api.Type{Name: "t" + strconv.Itoa(i)})
	}
	for i := range api.MaxClasses {
		c := api.Class{Name: "c" + strconv.Itoa(i)}
		for j := range api.MaxPerms {
			c.Perms = append(c.Perms, "p"+strconv.Itoa(j))
		}
		p.Classes = append(p.Classes, c)
	}
	for i := range api.MaxBools {
		p.Bools = append(p.Bools, api.Bool{Name: "b" + strconv.Itoa(i)})
	}
	return p
}

// same reports whether two values are equal, where nil and empty slices are.
func same(x, y any) bool { return sameValues(reflect.ValueOf(x), reflect.ValueOf(y)) }

func sameValues(x, y reflect.Value) bool {
	if x.Kind() != y.Kind() || x.Kind() == reflect.Slice && x.Len() != y.Len() {
		return false
	}
	switch x.Kind() {
	case reflect.Slice:
		for i := range x.Len() {
			if !sameValues(x.Index(i), y.Index(i)) {
				return false
			}
		}
		return true
	case reflect.Struct:
		for i := range x.NumField() {
			if !sameValues(x.Field(i), y.Field(i)) {
				return false
			}
		}
		return true
	}
	return x.Equal(y)
}

// scribble changes all memory that a value refers to, also behind its lists.
func scribble(v reflect.Value) {
	switch v.Kind() {
	case reflect.Struct:
		for i := range v.NumField() {
			scribble(v.Field(i))
		}
	case reflect.Slice:
		for i := range v.Len() {
			scribble(v.Index(i))
			v.Index(i).SetZero()
		}
		reflect.Append(v, reflect.Zero(v.Type().Elem()))
	}
}

// brief writes the beginning of a value.
func brief(x any) string {
	s := fmt.Sprint(x)
	return s[:min(len(s), 800)]
}

// picker picks numbers below its argument, by a rule that the seed begins.
type picker func(int) int

func newPicker(seed int) picker {
	state := uint32(seed)
	return func(n int) int {
		state = state*1664525 + 1013904223
		return int(state>>16) % n
	}
}

// one picks a number of a list.
func (pick picker) one(l ...int) int { return l[pick(len(l))] }

// set picks a set of types that is not empty.
func (pick picker) set() api.Set {
	s := bitset.Of(pick(3))
	for n := range 4 {
		if pick(5) == 0 {
			s = bitset.With(s, n)
		}
	}
	return s
}

func (pick picker) cond(levels int) api.Expr {
	if levels == 1 || pick(4) == 0 {
		return number(pick(3))
	}
	if pick(4) == 0 {
		return not(pick.cond(levels - 1))
	}
	return op(pick.one(api.ExprAnd, api.ExprOr, api.ExprXor, api.ExprSame, api.ExprDiffer), pick.cond(levels-1), pick.cond(levels-1))
}

func (pick picker) rule(conds int) api.Rule {
	r := api.Rule{Kind: pick.one(1, 1, 1, 1, 1, 1, 1, 2, 3, 4), Source: pick.set(), Target: pick.set(), Class: pick.one(1, 1, 1, 1, 1, 0), Perms: uint32(pick.one(1, 1, 2, 3, 5))}
	if pick(4) == 0 {
		r.Self = true
		if pick(2) == 0 {
			r.Target = api.Set{}
		}
	}
	if r.Kind != api.RuleNeverAllow && pick(2) == 0 {
		r.Cond = pick(2*conds+1) - conds
	}
	return r
}

func (pick picker) transition(conds int) api.Trans {
	t := api.Trans{Kind: 1 + pick(3), Source: pick.set(), Target: pick.set(), Class: pick(2), Result: pick(4), Cond: pick(2*conds+1) - conds}
	if t.Kind == api.TransCreate && pick(2) == 0 {
		t.Name = "log"
	}
	return t
}

// policy picks a valid policy.
func (pick picker) policy(t *testing.T) api.Policy {
	t.Helper()
	p := policy()
	conds := pick(6)
	for range conds {
		p.Conds = append(p.Conds, pick.cond(3))
	}
	for range pick(16) {
		p.Rules = append(p.Rules, pick.rule(conds))
	}
	for range pick(5) {
		p.Trans = append(p.Trans, pick.transition(conds))
	}
	checkValid(t, p)
	return p
}
