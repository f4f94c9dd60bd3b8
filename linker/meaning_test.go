package linker_test

import (
	"slices"
	"strconv"
	"strings"
	"testing"

	"accesscontrol/api"
	"accesscontrol/linker"
)

func rulesOf(p api.Policy) []api.Rule             { return p.Rules }
func transOf(p api.Policy) []api.Trans            { return p.Trans }
func roleTransOf(p api.Policy) []api.RoleTrans    { return p.RoleTrans }
func rangesOf(p api.Policy) []api.RangeTrans      { return p.Ranges }
func constraintsOf(p api.Policy) []api.Constraint { return p.Constraints }
func condsOf(p api.Policy) []api.Expr             { return p.Conds }
func sidsOf(p api.Policy) []api.InitialSid        { return p.Sids }
func filesOf(p api.Policy) []api.FileRule         { return p.Files }
func assertsOf(p api.Policy) []api.Assert         { return p.Asserts }

// nextOf lists the roles to which each role may change.
func nextOf(p api.Policy) []api.Set {
	var l []api.Set
	for _, r := range p.Roles {
		l = append(l, r.Next)
	}
	return l
}

// permissivesOf lists which types are permissive.
func permissivesOf(p api.Policy) []bool {
	var l []bool
	for _, x := range p.Types {
		l = append(l, x.Permissive)
	}
	return l
}

// P13.4: roleallow. The process roles are r1, r2 and r3.
func TestRoleAllow(t *testing.T) {
	for src, want := range map[string][]api.Set{
		"":                                     {{}, {}, {}, {}},
		"roleallow r1 r2;":                     {{}, set(2), {}, {}},
		"roleallow r1 r1;":                     {{}, set(1), {}, {}},
		"roleallow * *;":                       {{}, set(1, 2, 3), set(1, 2, 3), set(1, 2, 3)},
		"roleallow ~ r1 r1;":                   {{}, {}, set(1), set(1)},
		"roleallow r3 ~ r1;":                   {{}, {}, {}, set(2, 3)},
		"roleallow ~ { * } r1;":                {{}, {}, {}, {}},
		"roleallow r1 ~ { * };":                {{}, {}, {}, {}},
		"roleallow { r1 r2 - r2 } { * - r3 };": {{}, set(1, 2), {}, {}},
		"roleallow ~ { * - r2 } ~ { - r1 };":   {{}, {}, set(1, 2, 3), {}},
		"roleallow r1 r2; roleallow r1 r3; roleallow { r1 r2 } r2;": {{}, set(2, 3), set(2), {}},
	} {
		checkList(t, src, nextOf, want...)
	}
	for _, src := range []string{
		"roleallow object_r r1;", "roleallow r1 object_r;", "roleallow { r1 - object_r } r1;", "roleallow r1 { r2 object_r };", "roleallow ~ object_r r1;", "roleallow r1 { * - object_r };", "roleallow { object_r - object_r } r1;",
	} {
		checkFault(t, modules(t, base+src), 0, behind(api.ErrKind, 1))
	}
}

// P13.4: role_transition.
func TestRoleTransitions(t *testing.T) {
	for src, want := range map[string][]api.RoleTrans{
		"role_transition r1 a : file r2;":                                         {{Roles: set(1), Types: set(0), Class: 0, Result: 2}},
		"role_transition * x : dir r1;":                                           {{Roles: set(1, 2, 3), Types: set(0, 1), Class: 1, Result: 1}},
		"role_transition ~ r1 ~ x : * r3;":                                        {{Roles: set(2, 3), Types: set(2), Class: 0, Result: 3}, {Roles: set(2, 3), Types: set(2), Class: 1, Result: 3}},
		"role_transition r1 d : { dir file } r1;":                                 {{Roles: set(1), Types: set(1), Class: 0, Result: 1}, {Roles: set(1), Types: set(1), Class: 1, Result: 1}},
		"role_transition { r1 - r1 } a : file r2;":                                nil,
		"role_transition r1 none : file r2;":                                      nil,
		"role_transition r1 a : { dir - dir } r2;":                                nil,
		"role_transition r1 a : ~ dir r2;":                                        {{Roles: set(1), Types: set(0), Class: 0, Result: 2}},
		"role_transition r1 a : { * - file } r2; role_transition r1 a : file r3;": {{Roles: set(1), Types: set(0), Class: 1, Result: 2}, {Roles: set(1), Types: set(0), Class: 0, Result: 3}},
	} {
		checkList(t, src, roleTransOf, want...)
	}
	for _, src := range []string{
		"role_transition object_r a : file r2;", "role_transition { * - object_r } none : file r2;", "role_transition r1 a : file object_r;", "role_transition r1 none : { file - file } object_r;", "role_transition ~ { * } a : file object_r;",
	} {
		checkFault(t, modules(t, base+src), 0, behind(api.ErrKind, 1))
	}
}

// P13.4: users.
func TestUsers(t *testing.T) {
	s0, s1 := at(0, 0), at(1, 0)
	for src, want := range map[string]api.User{
		"user w roles { r1 } level s0 range s0;":                         {Roles: set(1), Default: s0, Range: span(s0, s0)},
		"user w roles { r3 r1 r3 } level s0 range s0-s1;":                {Roles: set(1, 3), Default: s0, Range: span(s0, s1)},
		"user w roles { r2 } level s1 range s0-s1;":                      {Roles: set(2), Default: s1, Range: span(s0, s1)},
		"user w roles { r2 } level s0:c1,c0 range s0:c1-s1:c0.c2;":       {Roles: set(2), Default: at(0, 3), Range: span(at(0, 2), at(1, 7))},
		"user w roles { r2 } level s1:c0.c2 range s1:c1,c0,c2-s1:c0.c2;": {Roles: set(2), Default: at(1, 7), Range: span(at(1, 7), at(1, 7))},
	} {
		want.Name = "w"
		if got := policy(t, base+src).Users[2]; got != want {
			t.Errorf("%q: got %v", src, got)
		}
	}
	for src, code := range map[string]api.Errno{
		"user w roles { object_r } level s0 range s0;":          api.ErrKind,
		"user w roles { r1 object_r } level s1 range s0;":       api.ErrKind,
		"user w roles { r1 object_r } level s0:c1.c0 range s0;": api.ErrKind,
		"user w roles { r1 } level s0:c1.c0 range s1-s0;":       api.ErrLevel,
		"user w roles { r1 } level s0:c2.c0 range s0-s1:c0.c2;": api.ErrLevel,
		"user w roles { r1 } level s0 range s1-s0;":             api.ErrLevel,
		"user w roles { r1 } level s0 range s0:c0-s1:c1;":       api.ErrLevel,
		"user w roles { r1 } level s0 range s0-s0:c2.c1;":       api.ErrLevel,
		"user w roles { r1 } level s1 range s0;":                api.ErrLevel,
		"user w roles { r1 } level s0 range s1;":                api.ErrLevel,
		"user w roles { r1 } level s0 range s0:c1-s1:c1;":       api.ErrLevel,
		"user w roles { r1 } level s0:c0.c1 range s0-s1:c1;":    api.ErrLevel,
	} {
		checkFault(t, modules(t, base+src), 0, behind(code, 1))
	}
}

// P13.4: rules.
func TestRules(t *testing.T) {
	rule := func(kind int, source, target api.Set, self bool, class int, perms uint32) api.Rule {
		return api.Rule{Kind: kind, Source: source, Target: target, Self: self, Class: class, Perms: perms}
	}
	a, b, all := set(0), set(1), set(0, 1, 2)
	for src, want := range map[string][]api.Rule{
		"allow a b : file read;":                                                    {rule(1, a, b, false, 0, 1)},
		"auditallow a d : dir add;":                                                 {rule(2, a, b, false, 1, 2)},
		"dontaudit a { b } : dir *;":                                                {rule(3, a, b, false, 1, 3)},
		"neverallow * ~ { b } : file ~ { read };":                                   {rule(4, all, set(0, 2), false, 0, 6)},
		"allow x self : file { read execute };":                                     {rule(1, set(0, 1), api.Set{}, true, 0, 5)},
		"allow { a c } { self b } : file write;":                                    {rule(1, set(0, 2), b, true, 0, 2)},
		"allow a ~ { self } : file write;":                                          {rule(1, a, all, true, 0, 2)},
		"allow a ~ { b self } : file write;":                                        {rule(1, a, set(0, 2), true, 0, 2)},
		"allow a ~ { * self } : file write;":                                        {rule(1, a, api.Set{}, true, 0, 2)},
		"allow a b : { dir file } read;":                                            {rule(1, a, b, false, 0, 1), rule(1, a, b, false, 1, 1)},
		"allow a b : * { read - read };":                                            nil,
		"allow a b : * ~ read;":                                                     {rule(1, a, b, false, 0, 6), rule(1, a, b, false, 1, 2)},
		"allow a b : * { * - read };":                                               {rule(1, a, b, false, 0, 6), rule(1, a, b, false, 1, 2)},
		"allow a b : { file - dir } { * - read execute };":                          {rule(1, a, b, false, 0, 6)},
		"allow none b : file read;":                                                 nil,
		"allow { a - a } self : file read;":                                         nil,
		"allow a none : file read;":                                                 nil,
		"allow a { none self } : file read;":                                        {rule(1, a, api.Set{}, true, 0, 1)},
		"allow a b : { file - file } read;":                                         nil,
		"allow a b : ~ { * } read;":                                                 nil,
		"allow a b : file ~ { * };":                                                 nil,
		"neverallow x none : file *;":                                               nil,
		"allow a b : file read; allow a b : file read; auditallow a b : file read;": {rule(1, a, b, false, 0, 1), rule(1, a, b, false, 0, 1), rule(2, a, b, false, 0, 1)},
	} {
		checkList(t, src, rulesOf, want...)
	}
	for src, col := range map[string]int{
		"allow a b : * add;":        1,
		"allow none b : * add;":     1,
		"allow a none : { * } add;": 1,
		"allow a b : file read; dontaudit a b : ~ dir { read - add };": 24,
		"if p { allow a b : ~ { - dir } { * - add }; }":                8,
	} {
		checkFault(t, modules(t, base+src), 0, behind(api.ErrPerm, col))
	}
}

// P13.4: type_transition, type_change and type_member.
func TestTransitions(t *testing.T) {
	trans := func(kind int, source, target api.Set, class int, name string, result int) api.Trans {
		return api.Trans{Kind: kind, Source: source, Target: target, Class: class, Name: name, Result: result}
	}
	a, b := set(0), set(1)
	for src, want := range map[string][]api.Trans{
		"type_transition a b : file c;":               {trans(1, a, b, 0, "", 2)},
		"type_transition a b : file d \"n.o\";":       {trans(1, a, b, 0, "n.o", 1)},
		"type_change x * : dir a;":                    {trans(2, set(0, 1), set(0, 1, 2), 1, "", 0)},
		"type_member ~ x { d c - d } : ~ file b;":     {trans(3, set(2), set(2), 1, "", 1)},
		"type_transition a b : { dir file } a \"~\";": {trans(1, a, b, 0, "~", 0), trans(1, a, b, 1, "~", 0)},
		"type_transition none b : file c;":            nil,
		"type_change a none : file c;":                nil,
		"type_member a b : { file - file } c;":        nil,
		"type_transition a b : file c; type_transition a b : file c; type_transition a b : file a;": {trans(1, a, b, 0, "", 2), trans(1, a, b, 0, "", 2), trans(1, a, b, 0, "", 0)},
	} {
		checkList(t, src, transOf, want...)
	}
}

// P13.4: range_transition.
func TestRangeTransitions(t *testing.T) {
	a, b := set(0), set(1)
	high := span(at(0, 2), at(1, 7))
	for src, want := range map[string][]api.RangeTrans{
		"range_transition a d : file s0;":          {{Source: a, Target: b, Range: span(at(0, 0), at(0, 0))}},
		"range_transition a b : * s0:c1-s1:c0.c2;": {{Source: a, Target: b, Range: high}, {Source: a, Target: b, Class: 1, Range: high}},
		"range_transition x ~ x : dir s1;":         {{Source: set(0, 1), Target: set(2), Class: 1, Range: span(at(1, 0), at(1, 0))}},
		"range_transition none b : file s0;":       nil,
		"range_transition a { b - b } : file s0;":  nil,
		"range_transition a b : ~ { * } s0;":       nil,
	} {
		checkList(t, src, rangesOf, want...)
	}
	for _, src := range []string{"range_transition a b : file s1-s0;", "range_transition a b : file s0:c1.c0;", "range_transition none b : ~ { * } s0:c0-s1;"} {
		checkFault(t, modules(t, base+src), 0, behind(api.ErrLevel, 1))
	}
}

// compare is a comparison of attributes, in an attribute that is one of a set.
func compare(a, rel, b int) api.Expr { return api.Expr{Op: api.ExprCompare, A: a, Rel: rel, B: b} }

func in(a int, s api.Set) api.Expr { return api.Expr{Op: api.ExprIn, A: a, Set: s} }

func op(op int, kids ...api.Expr) api.Expr { return api.Expr{Op: op, Kids: kids} }

// P13.4: constrain and validatetrans.
func TestConstraints(t *testing.T) {
	user, level := compare(0, 0, 5), compare(8, 2, 3)
	for src, want := range map[string][]api.Constraint{
		"constrain file read u1 == u2;":                               {{Perms: 1, Expr: user}},
		"constrain { dir file } ~ read u1 == u2;":                     {{Perms: 6, Expr: user}, {Class: 1, Perms: 2, Expr: user}},
		"constrain * { read - read } u1 == u2;":                       nil,
		"constrain ~ { * } read u1 == u2;":                            nil,
		"constrain dir { add } l2 dom l1 && !(u1 == u2);":             {{Class: 1, Perms: 2, Expr: op(api.ExprAnd, level, op(api.ExprNot, user))}},
		"constrain file read t1 in a;":                                {{Perms: 1, Expr: in(2, set(0))}},
		"constrain file read t2 in { d x } || r1 in { object_r r2 };": {{Perms: 1, Expr: op(api.ExprOr, in(7, set(0, 1)), in(1, set(0, 2)))}},
		"constrain file read u2 in { v u v };":                        {{Perms: 1, Expr: in(5, set(0, 1))}},
		"constrain file read t1 in none;":                             {{Perms: 1, Expr: compare(2, 1, 2)}},
		"constrain file read !(t2 in none);":                          {{Perms: 1, Expr: op(api.ExprNot, compare(7, 1, 7))}},
		"constrain file read t2 in { none c };":                       {{Perms: 1, Expr: in(7, set(2))}},
		"constrain file read u1 == u2; constrain file read u1 == u2;": {{Perms: 1, Expr: user}, {Perms: 1, Expr: user}},
		"validatetrans file u1 == u2;":                                {{Validate: true, Expr: user}},
		"validatetrans * t3 in none || h3 incomp l1;":                 {{Validate: true, Expr: op(api.ExprOr, compare(12, 1, 12), compare(14, 4, 3))}, {Class: 1, Validate: true, Expr: op(api.ExprOr, compare(12, 1, 12), compare(14, 4, 3))}},
		"validatetrans { dir - dir } u1 == u2;":                       nil,
		"validatetrans dir r3 in { r1 };":                             {{Class: 1, Validate: true, Expr: in(11, set(1))}},
	} {
		checkList(t, src, constraintsOf, want...)
	}
	for src, code := range map[string]api.Errno{
		"constrain file read u1 == r2;":                        api.ErrKind,
		"constrain file read l1 == u1;":                        api.ErrKind,
		"constrain file read t1 dom t2;":                       api.ErrKind,
		"constrain file read u1 incomp u2;":                    api.ErrKind,
		"constrain file read l1 in a;":                         api.ErrKind,
		"constrain file read h2 in { nothing };":               api.ErrKind,
		"validatetrans file u3 == t3;":                         api.ErrKind,
		"constrain * add u1 == u2;":                            api.ErrPerm,
		"constrain { dir - dir } read r1 domby r2;":            api.ErrKind,
		"constrain * add u1 == u2 || u1 dom u2;":               api.ErrKind,
		"constrain file { read - read } l1 == l2 && t1 == u1;": api.ErrKind,
	} {
		checkFault(t, modules(t, base+src), 0, behind(code, 1))
	}
	policy(t, base+"constrain file read l1 incomp h2 || h1 domby l2 || l1 != l2 || h1 == h1;")
}

// P13.4: an expression of more than MaxNest levels.
func TestLevelsOfConstraints(t *testing.T) {
	constrain := func(levels int) []api.Module {
		l := modules(t, base+"constrain file read u1 == u2;")
		for range levels - 1 {
			s := &l[0].Stmts[len(l[0].Stmts)-1]
			s.Cond = op(api.ExprNot, s.Cond)
		}
		return l
	}
	if p, n, f := linker.Link(constrain(api.MaxNest)); n != -1 || f != (api.Fault{}) || len(p.Constraints) != 1 {
		t.Errorf("got %v, %d, %v", p.Constraints, n, f)
	}
	checkFault(t, constrain(api.MaxNest+1), 0, behind(api.ErrLong, 1))
}

// P13.4: conditions, and what stands in blocks of if.
func TestConditions(t *testing.T) {
	p, q := api.Expr{Op: api.ExprName}, api.Expr{Op: api.ExprName, A: 1}
	rule := "{ allow a b : file read; }"
	for src, want := range map[string][]api.Expr{
		"if p " + rule:                   {p},
		"if q " + rule + " else " + rule: {q},
		"if p " + rule + "if p " + rule:  {p},
		"if p " + rule + "if !p " + rule + "if q " + rule + "if p " + rule: {p, op(api.ExprNot, p), q},
		"if p { allow none b : file read; }":                               {p},
		"if q == p " + rule + "if p == q " + rule + "if q != p " + rule + "if q ^ p " + rule + "if q || p " + rule + "if q && p " + rule: {
			op(api.ExprSame, q, p), op(api.ExprSame, p, q), op(api.ExprDiffer, q, p), op(api.ExprXor, q, p), op(api.ExprOr, q, p), op(api.ExprAnd, q, p)},
		"if p && q && p " + rule + "if p && (q && p) " + rule + "if (p && q) && p " + rule: {op(api.ExprAnd, op(api.ExprAnd, p, q), p), op(api.ExprAnd, p, op(api.ExprAnd, q, p))},
	} {
		checkList(t, src, condsOf, want...)
	}
	src := "allow a b : file write; if q { allow a a : file read; type_change a a : dir c; dontaudit a b : * read; } else { type_member a b : file c; allow a self : dir add; } allow b b : file write; if p { allow c c : file read; } if q { auditallow c c : dir read; } else { type_transition c c : dir c \"n\"; }"
	a, b, c := set(0), set(1), set(2)
	checkList(t, src, condsOf, q, p)
	checkList(t, src, rulesOf,
		api.Rule{Kind: 1, Source: a, Target: b, Perms: 2},
		api.Rule{Kind: 1, Source: a, Target: a, Perms: 1, Cond: 1}, api.Rule{Kind: 3, Source: a, Target: b, Perms: 1, Cond: 1}, api.Rule{Kind: 3, Source: a, Target: b, Class: 1, Perms: 1, Cond: 1},
		api.Rule{Kind: 1, Source: a, Self: true, Class: 1, Perms: 2, Cond: -1},
		api.Rule{Kind: 1, Source: b, Target: b, Perms: 2},
		api.Rule{Kind: 1, Source: c, Target: c, Perms: 1, Cond: 2},
		api.Rule{Kind: 2, Source: c, Target: c, Class: 1, Perms: 1, Cond: 1})
	checkList(t, src, transOf,
		api.Trans{Kind: 2, Source: a, Target: a, Class: 1, Result: 2, Cond: 1},
		api.Trans{Kind: 3, Source: a, Target: b, Result: 2, Cond: -1},
		api.Trans{Kind: 1, Source: c, Target: c, Class: 1, Name: "n", Result: 2, Cond: -1})
}

// P13.4: conditions of several modules, whose booleans other ones declare.
func TestConditionsOfModules(t *testing.T) {
	got := policy(t, "require bool w; require type a; require class k { r }; if w { allow a a : k r; }", "bool v true; if v { allow a a : k r; } require type a; require class k { r };", "bool w true; type a; class k { r }; if w { type_change a a : k a; } else { allow a a : k r; }")
	if !same(got.Conds, []api.Expr{{Op: api.ExprName, A: 1}, {Op: api.ExprName}}) || len(got.Rules) != 3 || got.Rules[0].Cond != 1 || got.Rules[1].Cond != 2 || got.Rules[2].Cond != -1 || got.Trans[0].Cond != 1 {
		t.Errorf("got %v, %v, %v", got.Conds, got.Rules, got.Trans)
	}
}

// P13.4: sid and filecon.
func TestContexts(t *testing.T) {
	s0 := span(at(0, 0), at(0, 0))
	checkList(t, "sid y u:r1:a:s0; sid object_r v:object_r:d:s0-s1:c1;", sidsOf,
		api.InitialSid{Name: "y", Context: api.Context{Role: 1, Range: s0}}, api.InitialSid{Name: "object_r", Context: api.Context{User: 1, Type: 1, Range: span(at(0, 0), at(1, 2))}})
	checkList(t, "filecon \"/x\" any u:object_r:c:s1; filecon \"/x\" socket u:r2:d:s0:c1-s1:c1.c2; filecon \"/x\" any u:object_r:c:s0;", filesOf,
		api.FileRule{Pattern: "/x", Context: api.Context{Type: 2, Range: span(at(1, 0), at(1, 0))}},
		api.FileRule{Pattern: "/x", Kind: 4, Context: api.Context{Role: 2, Type: 1, Range: span(at(0, 2), at(1, 6))}},
		api.FileRule{Pattern: "/x", Context: api.Context{Type: 2, Range: s0}})
	for context, code := range map[string]api.Errno{
		"u:r1:b:s0":             api.ErrContext, // the role does not have the type
		"u:r3:a:s0":             api.ErrContext, // nor the user the role
		"v:r3:c:s1:c1":          api.ErrContext,
		"u:object_r:a:s1-s0":    api.ErrLevel,
		"u:object_r:a:s0:c1.c0": api.ErrLevel,
		"v:r1:c:s1-s0":          api.ErrLevel,
		"w:r1:a:s0":             api.ErrContext, // the user is declared behind
		"w:r1:a:s1":             api.ErrContext,
		"u:r1:a:s1-s1:c2":       api.OK,
		"u:r1:a:s0-s1:c0.c2":    api.OK,
		"w:object_r:b:s1:c1":    api.OK,
		"v:object_r:c:s0":       api.OK, // out of the range of the user
	} {
		src := "sid y " + context + "; user w roles { r1 } level s0 range s0;"
		file := strings.Replace(src, "sid y", "filecon \"/\" link", 1)
		if code == api.OK {
			policy(t, base+src)
			policy(t, base+file)
			continue
		}
		checkFault(t, modules(t, base+src), 0, behind(code, 1))
		checkFault(t, modules(t, base+file), 0, behind(code, 1))
	}
	src := "user w roles { r1 } level s0 range s0-s0:c1; sid y w:r1:a:"
	for levels, code := range map[string]api.Errno{"s0": api.OK, "s0:c1": api.OK, "s0-s0:c1": api.OK, "s1": api.ErrContext, "s0:c0": api.ErrContext, "s0-s1": api.ErrContext} {
		if code == api.OK {
			policy(t, base+src+levels+";")
		} else {
			checkFault(t, modules(t, base+src+levels+";"), 0, behind(code, 46))
		}
	}
	const twice = "sid y u:r1:a:s0; sid z u:r1:a:s0; "
	checkFault(t, modules(t, base+twice+"sid y u:r2:a:s1;"), 0, fault(api.ErrTwice, baseLines+1, 35, "y"))
	checkFault(t, modules(t, base+twice, "require user u; require role r1; require type a; require sensitivity s0; sid z u:r1:a:s0;"), 1, fault(api.ErrTwice, 1, 74, "z"))
	checkFault(t, modules(t, base+twice+"sid y u:r1:b:s1;"), 0, behind(api.ErrContext, 35))
	checkFault(t, modules(t, base+twice+"sid y u:r1:b:s1-s0;"), 0, behind(api.ErrLevel, 35))
}

// P13.4: a user has the roles for the statements behind the user statement, in the order of the modules.
func TestUserOfOtherModule(t *testing.T) {
	const need = "require user w; require role r1; require type a; require sensitivity s0; "
	const user = "require role r1; require sensitivity s0; user w roles { r1 } level s0 range s0;"
	policy(t, base, user, need+"sid y w:r1:a:s0;")
	checkFault(t, modules(t, base, need+"sid y w:r1:a:s0;", user), 1, fault(api.ErrContext, 1, 74, ""))
	policy(t, base, need+"sid y w:object_r:a:s0;", user)
}

// P13.4: permissive and assert.
func TestPermissiveAndAssert(t *testing.T) {
	checkList(t, "", permissivesOf, false, false, false)
	checkList(t, "permissive d; permissive { c - c };", permissivesOf, false, true, false)
	checkList(t, "permissive a; permissive ~ x; permissive none;", permissivesOf, true, false, true)
	checkList(t, "assert y noflow a b; assert z nodomain x ~ x; assert a separate * d;", assertsOf,
		api.Assert{Name: "y", Kind: 1, Source: set(0), Target: set(1)}, api.Assert{Name: "z", Kind: 2, Source: set(0, 1), Target: set(2)}, api.Assert{Name: "a", Kind: 3, Source: set(0, 1, 2), Target: set(1)})
	// What is left out has no name.
	checkList(t, "assert y noflow none b; assert y noflow a { b - b }; assert y noflow a b;", assertsOf, api.Assert{Name: "y", Kind: 1, Source: set(0), Target: set(1)})
	const twice = "assert y noflow a b; assert z noflow a b; "
	checkFault(t, modules(t, base+twice+"assert y separate c c;"), 0, fault(api.ErrTwice, baseLines+1, 43, "y"))
	checkFault(t, modules(t, base+twice+"assert z noflow none c;"), 0, fault(api.ErrTwice, baseLines+1, 43, "z"))
	checkFault(t, modules(t, base+twice, "require type a; assert y noflow a a;"), 1, fault(api.ErrTwice, 1, 17, "y"))
}

// full returns base, and modules with a statement so many times; % in it is a number.
func full(t *testing.T, statement string, count int) []api.Module {
	t.Helper()
	sources := []string{base}
	for ; count > 0; count -= 300 {
		prefix := strings.ReplaceAll(statement, "%", strconv.Itoa(count)+"_%")
		sources = append(sources, need+repeated(prefix, min(count, 300)))
	}
	return modules(t, sources...)
}

// followed returns modules, and one more with the statements of a source on the second line.
func followed(t *testing.T, l []api.Module, src string) []api.Module {
	t.Helper()
	more := modules(t, need+src)
	more[0].Name = "last"
	return slices.Concat(l, more)
}

// P13.4: lists that are as long as their limits.
func TestLimitsOfLists(t *testing.T) {
	for _, x := range []struct {
		statement string
		count     int
		last      string
		length    func(api.Policy) int
		limit     int
	}{
		{"dontaudit a a : { file dir } read;", 2048, "allow a a : file read;", func(p api.Policy) int { return len(p.Rules) }, api.MaxRules},
		{"type_change a a : file a;", 1024, "type_change a a : dir a;", func(p api.Policy) int { return len(p.Trans) }, api.MaxTrans},
		{"if p { type_transition a a : file a \"n%\"; } else { type_member a a : file a; }", 512, "type_change a a : dir a;", func(p api.Policy) int { return len(p.Trans) }, api.MaxTrans},
		{"role_transition r1 a : * r1;", 512, "role_transition r1 a : dir r1;", func(p api.Policy) int { return len(p.RoleTrans) }, api.MaxTrans},
		{"range_transition a a : * s0;", 512, "range_transition a a : dir s0;", func(p api.Policy) int { return len(p.Ranges) }, api.MaxTrans},
		{"constrain file read u1 == u2; validatetrans dir u1 == u2;", 32, "validatetrans file u1 == u2;", func(p api.Policy) int { return len(p.Constraints) }, api.MaxConstraints},
		{"validatetrans * u1 == u2;", 32, "constrain file read u1 == u2;", func(p api.Policy) int { return len(p.Constraints) }, api.MaxConstraints},
		{"sid y% u:r1:a:s0;", 1024, "sid last u:r1:a:s0;", func(p api.Policy) int { return len(p.Sids) }, api.MaxSids},
		{"filecon \"/%\" any u:r1:a:s0;", 256, "filecon \"/\" any u:r1:a:s0;", func(p api.Policy) int { return len(p.Files) }, api.MaxFiles},
		{"assert y% noflow a a;", 64, "assert last noflow a a;", func(p api.Policy) int { return len(p.Asserts) }, api.MaxAsserts},
	} {
		l := full(t, x.statement, x.count)
		if p, n, f := linker.Link(l); n != -1 || f != (api.Fault{}) || x.length(p) != x.limit {
			t.Fatalf("%q: got %d, %v, and %d elements", x.statement, n, f, x.length(p))
		}
		checkFault(t, followed(t, l, x.last), len(l), fault(api.ErrLong, 2, 1, ""))
		for _, y := range []string{"allow none a : file read;", "type_change a none : file a;", "role_transition r1 none : file r1;", "range_transition none a : file s0;", "constrain file { read - read } u1 == u2;", "assert y noflow none a;"} {
			if p, n, f := linker.Link(followed(t, l, y)); n != -1 || f != (api.Fault{}) || x.length(p) != x.limit {
				t.Errorf("%q behind %q: got %d, %v, and %d elements", y, x.statement, n, f, x.length(p))
			}
		}
	}
	l := full(t, "sid y% u:r1:a:s0;", 1024)
	checkFault(t, followed(t, l, "sid y124_7 u:r1:a:s0;"), len(l), fault(api.ErrTwice, 2, 1, "y124_7"))
	checkFault(t, followed(t, l, "sid y u:r1:b:s0;"), len(l), fault(api.ErrContext, 2, 1, ""))
}

// P13.4: a list that is too long is found when something is added: behind the errors of the classes before, ahead of those of the classes behind.
func TestLimitAndPermissions(t *testing.T) {
	l := full(t, "allow a a : { file dir } read;", 2048)
	checkFault(t, followed(t, l, "if p { allow a a : { file - dir } write; }"), len(l), fault(api.ErrLong, 2, 8, ""))
	checkFault(t, followed(t, l, "allow a a : * write;"), len(l), fault(api.ErrLong, 2, 1, ""))
	checkFault(t, followed(t, l, "allow none a : * write;"), len(l), fault(api.ErrPerm, 2, 1, ""))
	checkFault(t, followed(t, l, "allow a a : * add;"), len(l), fault(api.ErrPerm, 2, 1, ""))
	l = full(t, "allow a a : { file dir } read;", 2047)
	checkFault(t, followed(t, l, "allow a a : * write;"), len(l), fault(api.ErrPerm, 2, 1, ""))
	checkFault(t, followed(t, l, "allow a a : file read; allow a a : { file dir } read;"), len(l), fault(api.ErrLong, 2, 24, ""))
}

// P13.4: at most MaxConds conditions; one of the same structure needs no room.
func TestLimitOfConditions(t *testing.T) {
	condition := func(n int) string { // different for each n
		e := "p"
		for ; n > 0; n /= 2 {
			e = []string{e + " && q", e + " || q"}[n%2]
			e = "(" + e + ")"
		}
		return "if " + e + " { allow a b : file read; }\n"
	}
	src := base
	for n := range api.MaxConds {
		src += condition(n)
	}
	if p := policy(t, src+condition(5)+condition(63)); len(p.Conds) != api.MaxConds || p.Rules[64].Cond != 6 || p.Rules[65].Cond != 64 {
		t.Errorf("got %d conditions, %v", len(p.Conds), p.Rules[64:])
	}
	checkFault(t, modules(t, src+condition(64)), 0, fault(api.ErrLong, baseLines+1+64, 1, ""))
	checkFault(t, modules(t, src+"if q { allow a none : file read; } if q { allow a b : * add; }"), 0, fault(api.ErrLong, baseLines+1+64, 1, ""))
}
