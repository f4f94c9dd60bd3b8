package modcheck_test

import (
	"slices"
	"strings"
	"testing"

	"accesscontrol/api"
	"accesscontrol/modcheck"
)

func checkWarnings(t *testing.T, m api.Module, want ...api.Fault) {
	t.Helper()
	if got := modcheck.Warnings(m); !slices.Equal(got, want) {
		t.Errorf("Warnings(%s): got %v, want %v", brief(m), got, want)
	}
}

// P11.5: the sets that a statement has, each of which stands for the word that it is called.
func TestEmptySets(t *testing.T) {
	for _, src := range []string{
		"allow SOURCE TARGET : CLASS PERMISSION;", "auditallow SOURCE TARGET : CLASS PERMISSION;", "dontaudit SOURCE TARGET : CLASS PERMISSION;", "neverallow SOURCE TARGET : CLASS PERMISSION;",
		"type_transition SOURCE TARGET : CLASS a;", "type_transition SOURCE TARGET : CLASS a \"n\";", "type_change SOURCE TARGET : CLASS a;", "type_member SOURCE TARGET : CLASS a;", "role_transition SOURCE TARGET : CLASS k;", "range_transition SOURCE TARGET : CLASS s;",
		"constrain CLASS PERMISSION u1 == u2;", "validatetrans CLASS u1 == u2;", "roleallow SOURCE TARGET;", "permissive SOURCE;", "assert n noflow SOURCE TARGET;", "assert n nodomain SOURCE TARGET;", "assert n separate SOURCE TARGET;",
	} {
		var all []api.Fault
		nothing := src
		for _, name := range strings.Fields("SOURCE TARGET CLASS PERMISSION") {
			if strings.Contains(src, " "+name) {
				all = append(all, fault(api.ErrNone, 1, 1, strings.ToLower(name)))
				nothing = strings.Replace(nothing, " "+name, " { - a }", 1)
				checkWarnings(t, module(t, strings.Replace(src, " "+name, " ~ { * }", 1)), fault(api.ErrNone, 1, 1, strings.ToLower(name)))
			}
		}
		checkWarnings(t, module(t, src))
		checkWarnings(t, module(t, nothing), all...)
	}
	for _, src := range []string{"role k types { - a };", "role k;", "role k types ~ { * };", "type a;", "class c { p };", "user u roles { k } level s range s;", "require type a;", "sid n u:k:a:s;", "optional { type a; }", "if v { allow a b : c p; }"} {
		checkWarnings(t, module(t, src))
	}
}

// P11.5: which sets are certainly empty.
func TestCertainlyEmpty(t *testing.T) {
	for text, empty := range map[string]bool{
		"{ - a }": true, "{ - a - b }": true, "{ a - a }": true, "{ a - b - a }": true, "{ a b - b - a }": true, "{ a a - a }": true, "~ { * }": true, "~ { * a }": true, "~ { * a b }": true, "~ { * * }": true,
		"a": false, "{ a b - a }": false, "{ a - b }": false, "*": false, "{ * - a }": false, "{ * a - a }": false, "~ a": false, "~ { a - a }": false, "~ { - a }": false, "~ { * - a }": false, "~ { * a - a }": false, "~ { a b }": false,
		"self": false, "{ self - a }": false, "{ self a - a }": false, "~ { self }": false, "~ { self - a }": false, "{ * self }": false, "~ { * self }": true, "~ { * self a }": true, "~ { * self - a }": false, "~ { self a - a }": false,
	} {
		var want []api.Fault
		if empty {
			want = []api.Fault{fault(api.ErrNone, 1, 1, "target")}
		}
		checkWarnings(t, module(t, "allow a "+text+" : c p;"), want...)
	}
}

// anyOf returns the condition that one of some booleans is true, with few levels.
func anyOf(l []string) string {
	if len(l) == 1 {
		return l[0]
	}
	half := len(l) / 2
	return "(" + anyOf(l[:half]) + " || " + anyOf(l[half:]) + ")"
}

// P11.5: conditions that are constant.
func TestConstantConditions(t *testing.T) {
	many, wide := anyOf(words("v", api.MaxBools)), anyOf(words("v", api.MaxBools+1))
	for cond, constant := range map[string]bool{
		"v": false, "!v": false, "v && w": false, "v || !v": true, "v && !v": true, "v == v": true, "v != v": true, "v ^ w": false, "v ^ v": true, "!(v && w) == (!v || !w)": true, "v && (w || !w)": false,
		many: false, many + " || !(" + many + ")": true, wide: false, wide + " || !(" + wide + ")": false, // only so many booleans are examined
	} {
		var want []api.Fault
		if constant {
			want = []api.Fault{fault(api.ErrState, 1, 1, "")}
		}
		checkWarnings(t, module(t, "if "+cond+" { allow a b : c p; }"), want...)
		checkWarnings(t, module(t, "if "+cond+" { allow a b : c p; } else { type a; }"), want...)
	}
}

// P11.5: statements that are equal to an earlier one of the same block.
func TestRepeated(t *testing.T) {
	twice := func(lines ...int) []api.Fault {
		var l []api.Fault
		for _, line := range lines {
			l = append(l, fault(api.ErrTwice, line, 1, ""))
		}
		return l
	}
	for src, want := range map[string][]api.Fault{
		"type a;\ntype b;\ntype a;\ntype a;":                                              twice(3, 4),
		"type a;\nattribute a;\nrole a;\ntype a alias { b };":                             nil,
		"allow a b : c p;\nallow a b : c { p };":                                          twice(2),
		"allow a b : c { p q };\nallow a b : c { q p };":                                  nil,
		"allow a b : c p;\nauditallow a b : c p;":                                         nil,
		"bool v true;\nbool v false;\nbool v true;":                                       twice(3),
		"type a;\noptional {\ntype a;\n} else {\ntype a;\n}":                              nil,
		"optional {\ntype a;\ntype a;\n} else {\ntype b;\ntype b;\n}":                     twice(3, 6),
		"optional {\ntype a;\n}\noptional {\ntype a;\n}":                                  twice(4),
		"optional {\ntype a;\n}\noptional {\ntype a;\n} else {\ntype b;\n}":               nil,
		"optional {\ntype a;\n}\noptional {\ntype a;\ntype a;\n}\noptional {\ntype a;\n}": twice(6, 8),
		"if v {\nallow a b : c p;\n}\nif v {\nallow a b : c p;\n}":                        twice(4),
		"if v {\nallow a b : c p;\n}\nif w {\nallow a b : c p;\n}":                        nil,
		"if v {\nallow a b : c p;\n}\nallow a b : c p;\nallow a b : c p;":                 twice(5),
		"require type a;\nrequire type a;\nrequire type a, a;":                            twice(2),
	} {
		checkWarnings(t, module(t, src), want...)
	}
	a := api.Stmt{Kind: api.StmtType, Name: "a"}
	l := slices.Repeat([]api.Stmt{a}, api.MaxStmts)
	if got := modcheck.Warnings(api.Module{Name: "m", Stmts: l}); len(got) != api.MaxStmts-1 {
		t.Errorf("Warnings of equal statements: got %d", len(got))
	}
}

// P11.5: the order of warnings.
func TestOrderOfWarnings(t *testing.T) {
	const src = `if v == v {
allow { - a } ~ { * } : { c - c } { p - p };
allow { - a } ~ { * } : { c - c } { p - p };
} else {
permissive { a - a };
}
optional {
if w ^ w {
type_change { - a } b : c a;
}
} else {
optional { type a;
type a;
}
type b;
type b;
}
if v == v {
allow { - a } ~ { * } : { c - c } { p - p };
allow { - a } ~ { * } : { c - c } { p - p };
} else {
permissive { a - a };
}
`
	none := func(line int, names ...string) []api.Fault {
		var l []api.Fault
		for _, name := range names {
			l = append(l, fault(api.ErrNone, line, 1, name))
		}
		return l
	}
	warn := func(code api.Errno, line int) []api.Fault { return []api.Fault{fault(code, line, 1, "")} }
	all := []string{"source", "target", "class", "permission"}
	checkWarnings(t, module(t, src), slices.Concat(
		warn(api.ErrState, 1), none(2, all...), none(3, all...), warn(api.ErrTwice, 3), none(5, "source"),
		warn(api.ErrState, 8), none(9, "source"), warn(api.ErrTwice, 13), warn(api.ErrTwice, 16),
		warn(api.ErrState, 18), warn(api.ErrTwice, 18), none(19, all...), none(20, all...), warn(api.ErrTwice, 20), none(22, "source"))...)
}

// P11.5: a module that is not well-formed has no warnings; one that only has other faults does.
func TestWarningsOfFaultyModules(t *testing.T) {
	m := module(t, "permissive { - a };\nallow z z : z z;\nif v { type a; type a; }")
	want := []api.Fault{fault(api.ErrNone, 1, 1, "source"), fault(api.ErrTwice, 3, 16, "")}
	checkWarnings(t, m, want...)
	m.Name = "other"
	checkWarnings(t, m, want...)
	m.Name = "type"
	checkWarnings(t, m)
	m.Name, m.Version = "m", 10000
	checkWarnings(t, m)
	m.Version = 0
	m.Stmts = append(m.Stmts, api.Stmt{})
	checkWarnings(t, m)
	deep := m.Stmts[0]
	for range 60000 {
		deep = api.Stmt{Kind: api.StmtOptional, Then: []api.Stmt{deep}}
	}
	checkWarnings(t, api.Module{Name: "m", Stmts: []api.Stmt{m.Stmts[0], deep}})
}
