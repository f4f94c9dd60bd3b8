package printer_test

import (
	"math"
	"reflect"
	"slices"
	"strings"
	"testing"

	"accesscontrol/api"
	"accesscontrol/printer"
)

// fieldsOf returns the fields that statements of a kind have, besides Kind and Pos.
func fieldsOf(s api.Stmt) []string {
	if s.Kind == api.StmtRequire && s.Op == api.SymClass {
		return []string{"Op", "Name", "List"}
	}
	return strings.Fields(map[int]string{
		api.StmtClass: "Name List", api.StmtType: "Name Aliases List", api.StmtAttribute: "Name", api.StmtMember: "Name List", api.StmtRole: "Name Source", api.StmtRoleAllow: "Source Target",
		api.StmtRoleTrans: "Source Target Class Result", api.StmtUser: "Name List Level Range", api.StmtBool: "Name Value", api.StmtSensitivity: "Name", api.StmtCategory: "Name", api.StmtRule: "Op Source Target Class Perms",
		api.StmtTrans: "Op Source Target Class Result Text", api.StmtRangeTrans: "Source Target Class Range", api.StmtConstrain: "Class Perms Cond", api.StmtValidate: "Class Cond", api.StmtIf: "Cond Then Else",
		api.StmtOptional: "Then Else", api.StmtRequire: "Op List", api.StmtSid: "Name Context", api.StmtFile: "Text Op Context", api.StmtPermissive: "Source", api.StmtAssert: "Name Op Source Target",
	}[s.Kind])
}

// with returns the statement with another value of a field.
func with(s api.Stmt, field string, value any) api.Stmt {
	reflect.ValueOf(&s).Elem().FieldByName(field).Set(reflect.ValueOf(value))
	return s
}

// notZero returns values of a field that are not zero.
func notZero(field string) []any {
	switch field {
	case "Op":
		return []any{1, -1, 2}
	case "Name", "Result", "Text":
		return []any{"a"}
	case "List", "Aliases":
		return []any{[]string{"a"}, []string{""}}
	case "Source", "Target", "Class", "Perms":
		return []any{api.NameSet{All: true}, api.NameSet{Not: true}, api.NameSet{Self: true}, names("a"), api.NameSet{Except: []string{"a"}}}
	case "Cond":
		return []any{boolean("a"), compare(0, 0, 5), api.Expr{Op: 1}, api.Expr{A: 1}, api.Expr{Rel: 1}, api.Expr{B: -1}, api.Expr{Names: []string{""}}, api.Expr{Set: api.Set{0, 0, 0, 1}}, api.Expr{Kids: make([]api.Expr, 1)}}
	case "Level":
		return []any{sens("s0"), api.LevelText{Cats: make([]api.Span, 1)}}
	case "Range":
		return []any{api.RangeText{Low: sens("s0")}, api.RangeText{High: sens("s0")}, api.RangeText{Low: api.LevelText{Cats: make([]api.Span, 1)}}, api.RangeText{High: api.LevelText{Cats: make([]api.Span, 1)}}}
	case "Context":
		return []any{api.ContextText{User: "u"}, api.ContextText{Role: "u"}, api.ContextText{Type: "u"}, api.ContextText{Range: api.RangeText{High: sens("s0")}}, api.ContextText{User: "u", Role: "r", Type: "t", Range: api.RangeText{Low: sens("s0")}}}
	case "Value":
		return []any{true}
	}
	return []any{[]api.Stmt{{Kind: api.StmtType, Name: "a"}}, make([]api.Stmt, 1)}
}

func badNames() []string {
	return append(strings.Fields(keywords), "", "1", "1a", "a-b", "a b", " a", "a\n", "é", "*", strings.Repeat("n", api.MaxName+1))
}

// badSets returns sets of names that are not well-formed, apart from those with Self.
func badSets() []any {
	l := []any{api.NameSet{Not: true}, api.NameSet{Not: true, Names: []string{}}}
	for _, s := range badNames() {
		l = append(l, names(s), names("a", s), api.NameSet{Except: []string{s}}, api.NameSet{All: true, Names: []string{s}}, api.NameSet{All: true, Except: []string{"a", s}}, api.NameSet{Not: true, Names: []string{s, "a"}})
	}
	return l
}

// badLevels returns levels that are not well-formed and not zero.
func badLevels() []api.LevelText {
	l := []api.LevelText{{Cats: []api.Span{{From: "c0"}}}, {Sens: "s0", Cats: make([]api.Span, 1)}, {Sens: "s0", Cats: []api.Span{{To: "c0"}}}, {Sens: "s0", Cats: []api.Span{{From: "c0"}, {From: "if"}}}}
	for _, s := range badNames()[:20] {
		l = append(l, sens(s), api.LevelText{Sens: "s0", Cats: []api.Span{{From: "c0", To: s}, {From: s}}}, api.LevelText{Sens: "s0", Cats: []api.Span{{From: "c0", To: s}}})
	}
	return append(l, sens("a b"))
}

func badRanges() []any {
	l := []any{api.RangeText{}, api.RangeText{High: sens("s0")}}
	for _, level := range badLevels() {
		l = append(l, api.RangeText{Low: level}, api.RangeText{Low: level, High: sens("s0")}, api.RangeText{Low: sens("s0"), High: level})
	}
	return l
}

func badContexts() []any {
	c := api.ContextText{User: "u", Role: "r", Type: "t", Range: api.RangeText{Low: sens("s0")}}
	l := []any{api.ContextText{}}
	for _, s := range badNames() {
		x, y, z := c, c, c
		x.User, y.Role, z.Type = s, s, s
		l = append(l, x, y, z)
	}
	for _, r := range badRanges() {
		x := c
		x.Range = r.(api.RangeText)
		l = append(l, x)
	}
	return l
}

// badExpressions returns expressions that are no expressions of constraints, not even with a third context.
func badExpressions() []api.Expr {
	x := in(0, "a")
	l := []api.Expr{{}, boolean("a"), {Op: -1}, {Op: api.ExprIn + 1, Names: []string{"a"}}, {Op: api.ExprXor, Kids: []api.Expr{x, x}}, {Op: api.ExprSame, Kids: []api.Expr{x, x}}, {Op: api.ExprDiffer, Kids: []api.Expr{x, x}},
		{Op: api.ExprNot}, {Op: api.ExprNot, Kids: []api.Expr{x, x}}, {Op: api.ExprAnd, Kids: []api.Expr{x}}, {Op: api.ExprAnd, Kids: []api.Expr{x, x, x}}, {Op: api.ExprOr}, {Op: api.ExprOr, Kids: []api.Expr{x}}, {Op: api.ExprOr, Kids: []api.Expr{x, x, x}},
		{Op: api.ExprIn}, in(-1, "a"), in(15, "a"), in(0, "a", "if"), compare(-1, 0, 0), compare(0, 0, -1), compare(15, 0, 0), compare(0, 0, 15), compare(0, -1, 0), compare(0, 5, 0), compare(math.MinInt, 0, math.MaxInt)}
	for _, s := range badNames() {
		l = append(l, in(0, s))
	}
	for _, good := range []api.Expr{x, compare(0, 0, 5), not(x), and(x, x), or(x, x)} {
		for i, change := range []func(*api.Expr){
			func(e *api.Expr) { e.Set[2] = 1 },
			func(e *api.Expr) { e.A = 1 },
			func(e *api.Expr) { e.Rel = 1 },
			func(e *api.Expr) { e.B = 1 },
			func(e *api.Expr) { e.Names = []string{"a"} },
			func(e *api.Expr) { e.Kids = append(slices.Clone(e.Kids), x) },
		} {
			bad := good
			change(&bad)
			if !(good.Op == api.ExprCompare && 1 <= i && i <= 3 || good.Op == api.ExprIn && (i == 1 || i == 4)) {
				l = append(l, bad)
			}
		}
	}
	return l
}

// badExprs returns expressions that are not well-formed, and not zero, as a condition or a constraint.
func badExprs(kind int) []any {
	var l []any
	if kind == api.StmtIf {
		for _, e := range []api.Expr{{}, boolean("if"), {Op: api.ExprName}, in(0, "a"), compare(0, 0, 5), not(in(0, "a")), {Op: api.ExprNot}} {
			l = append(l, e, and(boolean("a"), e))
		}
		deep := boolean("a")
		for range api.MaxNest {
			deep = not(deep)
		}
		return append(l, deep)
	}
	for _, e := range badExpressions() {
		l = append(l, e, not(e), and(in(0, "a"), e), or(e, in(0, "a")))
	}
	deep := in(0, "a")
	for range api.MaxNest {
		deep = not(deep)
	}
	l = append(l, deep)
	if kind == api.StmtConstrain {
		l = append(l, in(10, "a"), compare(0, 0, 10), compare(14, 0, 0), not(compare(0, 0, 12)))
	}
	return l
}

// improper returns values of a field that a statement has, which are not well-formed.
func improper(s api.Stmt, field string) []any {
	var l []any
	switch field {
	case "Op":
		for _, n := range []int{math.MinInt, -1, 9, math.MaxInt, map[int]int{api.StmtRule: 5, api.StmtTrans: 4, api.StmtRequire: 9, api.StmtFile: 5, api.StmtAssert: 4}[s.Kind]} {
			l = append(l, n)
		}
		if s.Kind != api.StmtFile {
			l = append(l, 0)
		}
	case "Name", "Result":
		for _, x := range badNames() {
			l = append(l, x)
		}
	case "List", "Aliases":
		for _, x := range badNames() {
			l = append(l, []string{x}, []string{"a", x}, []string{x, "a"})
		}
		if s.Kind != api.StmtType {
			l = append(l, []string{}, []string(nil))
		}
	case "Source", "Target", "Class", "Perms":
		l = badSets()
		if field != "Source" || s.Kind != api.StmtRole {
			l = append(l, api.NameSet{}, api.NameSet{Names: []string{}})
		}
		if field != "Target" || s.Kind != api.StmtRule {
			l = append(l, api.NameSet{Self: true}, api.NameSet{Self: true, Names: []string{"a"}}, api.NameSet{All: true, Self: true, Not: true})
		}
	case "Level":
		l = append(l, api.LevelText{})
		for _, x := range badLevels() {
			l = append(l, x)
		}
	case "Range":
		l = badRanges()
	case "Context":
		l = badContexts()
	case "Cond":
		l = badExprs(s.Kind)
	case "Text":
		return badTexts(s)
	case "Then", "Else":
		l = append(l, make([]api.Stmt, 1), []api.Stmt{{Kind: api.StmtType, Name: "a"}, {Kind: api.StmtType}}, []api.Stmt{{Kind: api.StmtType, Name: "a"}, {Kind: api.StmtOptional}, {Kind: api.StmtType, Name: "a"}})
		if field == "Then" {
			l = append(l, []api.Stmt{}, []api.Stmt(nil))
		}
	}
	return l
}

func badTexts(s api.Stmt) []any {
	l := []any{"\"", "a\"b", "\x00", "\x1f", "\x7f", "é", "a\n", strings.Repeat("x", api.MaxPath+1)}
	switch {
	case s.Kind == api.StmtFile:
		l = append(l, "")
	case s.Op == api.TransCreate:
		l = append(l, " ", "a b", "/", "a/b", strings.Repeat("x", api.MaxName+1))
	default:
		l = append(l, "x", " ")
	}
	return l
}

// checkRefused checks that a statement is not well-formed, alone, in a module and in blocks.
func checkRefused(t *testing.T, s api.Stmt) {
	t.Helper()
	checkStatement(t, s, 0, "", api.ErrArg)
	for _, x := range []api.Stmt{s, nest(s, 1), nest(s, 2), nest(s, 5)} {
		checkModule(t, api.Module{Name: "m", Stmts: []api.Stmt{{Kind: api.StmtType, Name: "a"}, x, {Kind: api.StmtType, Name: "b"}}}, "", api.ErrArg)
	}
}

// P8.1: fields that a kind does not have are zero, and those that it has are as described.
func TestFields(t *testing.T) {
	all := strings.Fields("Op Name Result Text List Aliases Source Target Class Perms Cond Level Range Context Value Then Else")
	if reflect.TypeFor[api.Stmt]().NumField() != len(all)+2 {
		t.Fatal("fields are missing in this test")
	}
	for _, x := range samples() {
		fields := fieldsOf(x.s)
		for _, field := range all {
			values := notZero(field)
			if slices.Contains(fields, field) {
				values = improper(x.s, field)
			}
			for _, value := range values {
				checkRefused(t, with(x.s, field, value))
			}
		}
	}
}

// P8.1: kinds that do not exist.
func TestKinds(t *testing.T) {
	for _, kind := range []int{0, -1, api.StmtAssert + 1, math.MaxInt, math.MinInt} {
		checkRefused(t, api.Stmt{Kind: kind})
		checkRefused(t, api.Stmt{Kind: kind, Name: "a"})
		checkRefused(t, api.Stmt{Kind: kind, Name: "a", Op: 1, Source: names("a"), Target: names("b")})
	}
	for kind := range api.StmtAssert + 2 {
		checkRefused(t, api.Stmt{Kind: kind})
	}
}

// P8.1: a requirement has a name exactly if it is one of a class.
func TestRequirements(t *testing.T) {
	for op := range 10 {
		s := api.Stmt{Kind: api.StmtRequire, Op: op, List: []string{"a"}}
		if op >= api.SymType && op <= api.SymCategory {
			checkModule(t, api.Module{Name: "m", Stmts: []api.Stmt{s}}, "module m 0;\nrequire "+strings.Fields("type attribute role user bool sensitivity category")[op-2]+" a;\n", api.OK)
		} else {
			checkRefused(t, s)
		}
		s.Name = "c"
		if op == api.SymClass {
			checkStatement(t, s, 0, "require class c { a };", api.OK)
		} else {
			checkRefused(t, s)
		}
	}
}

// P8.1: texts that may stand in a statement.
func TestTexts(t *testing.T) {
	for _, text := range []string{"!", "~", "a.b", "\\", "{;}#", strings.Repeat("x", api.MaxName)} {
		s := rules()[7].s
		s.Text = text
		checkStatement(t, s, 0, "type_transition a b : c d \""+text+"\";", api.OK)
	}
	for _, text := range []string{" ", "~", "/", "a b", strings.Repeat("x", api.MaxPath)} {
		s := api.Stmt{Kind: api.StmtFile, Text: text, Context: api.ContextText{User: "u", Role: "r", Type: "t", Range: api.RangeText{Low: sens("s0")}}}
		checkStatement(t, s, 0, "filecon \""+text+"\" any u:r:t:s0;", api.OK)
	}
}

// Rules: nil and empty slices are the same.
func TestEmptySlices(t *testing.T) {
	for _, x := range samples() {
		s := cloned([]api.Stmt{x.s})
		fillEmpty(reflect.ValueOf(s))
		checkStatement(t, s[0], 0, x.src, api.OK)
		if !printer.SameStatements(s, []api.Stmt{x.s}) || !printer.SameStatements([]api.Stmt{x.s}, s) {
			t.Errorf("%q with empty slices is not the same", x.src)
		}
	}
}

// fillEmpty replaces nil slices within a value by empty ones.
func fillEmpty(v reflect.Value) {
	switch v.Kind() {
	case reflect.Struct:
		for i := range v.NumField() {
			fillEmpty(v.Field(i))
		}
	case reflect.Slice:
		if v.IsNil() {
			v.Set(reflect.MakeSlice(v.Type(), 0, 0))
		}
		for i := range v.Len() {
			fillEmpty(v.Index(i))
		}
	}
}

// P8.1: the errors of Check, in their order.
func TestCheckOrder(t *testing.T) {
	one, bad := api.Stmt{Kind: api.StmtType, Name: "a"}, api.Stmt{Kind: api.StmtType}
	many := slices.Repeat([]api.Stmt{one}, api.MaxStmts)
	inBlocks := api.Stmt{Kind: api.StmtOptional, Then: many[:600], Else: many[600 : api.MaxStmts-1]}
	checkModule(t, api.Module{Name: "m", Stmts: many}, "module m 0;\n"+strings.Repeat("type a;\n", api.MaxStmts), api.OK)
	if code := printer.Check(api.Module{Name: "m", Stmts: []api.Stmt{inBlocks}}); code != api.OK {
		t.Errorf("Check of MaxStmts statements in blocks: got %v", code)
	}
	if code := printer.Check(api.Module{Name: "m", Stmts: []api.Stmt{nest(one, api.MaxNest)}}); code != api.OK {
		t.Errorf("Check of MaxNest blocks: got %v", code)
	}
	for _, l := range [][]api.Stmt{append(slices.Clone(many), one), {inBlocks, one}, {one, nest(one, api.MaxNest+1)}, append(slices.Clone(many), bad), {bad, nest(one, api.MaxNest+1)}, {nest(bad, api.MaxNest+1)}} {
		checkModule(t, api.Module{Name: "m", Stmts: l}, "", api.ErrLong)
		checkModule(t, api.Module{Name: "m", Version: 10000, Stmts: l}, "", api.ErrRange)
		checkModule(t, api.Module{Version: 1, Stmts: l}, "", api.ErrName)
	}
	for _, version := range []int{-1, 10000, math.MinInt, math.MaxInt} {
		checkModule(t, api.Module{Name: "m", Version: version}, "", api.ErrRange)
		checkModule(t, api.Module{Name: "m", Version: version, Stmts: []api.Stmt{bad}}, "", api.ErrRange)
		checkModule(t, api.Module{Name: "type", Version: version, Stmts: []api.Stmt{bad}}, "", api.ErrName)
	}
	for _, name := range badNames() {
		checkModule(t, api.Module{Name: name}, "", api.ErrName)
	}
}

// P8.2: the errors of Statement, in their order. The number of statements is no error.
func TestStatementOrder(t *testing.T) {
	one, bad := api.Stmt{Kind: api.StmtType, Name: "a"}, api.Stmt{Kind: api.StmtType}
	long := api.Stmt{Kind: api.StmtClass, Name: "c", List: slices.Repeat([]string{"p"}, api.MaxSource)}
	checkStatement(t, nest(one, api.MaxNest+1), -1, "", api.ErrArg)
	checkStatement(t, nest(one, api.MaxNest+1), 0, "", api.ErrLong)
	checkStatement(t, nest(bad, api.MaxNest+1), 0, "", api.ErrLong)
	checkStatement(t, with(bad, "Else", []api.Stmt{nest(one, api.MaxNest)}), 0, "", api.ErrLong)
	checkStatement(t, long, 0, "", api.ErrLong)
	checkStatement(t, long, 13, "", api.ErrArg)
	checkStatement(t, with(long, "Name", ""), 0, "", api.ErrArg)
	checkStatement(t, nest(with(long, "Name", ""), 3), 0, "", api.ErrArg)
	many := api.Stmt{Kind: api.StmtOptional, Then: slices.Repeat([]api.Stmt{one}, 2*api.MaxStmts)}
	checkStatement(t, many, 0, "optional {\n"+strings.Repeat("  type a;\n", 2*api.MaxStmts)+"}", api.OK)
	src, code := printer.Statement(nest(one, api.MaxNest), api.MaxNest)
	if code != api.OK || strings.Count(src, strings.Repeat("  ", 2*api.MaxNest)+"type a;\n") != 1 {
		t.Errorf("MaxNest blocks at level MaxNest: got %q, %v", src, code)
	}
}

// P8.3: parts that are not well-formed.
func TestBadParts(t *testing.T) {
	refused := func(s string, code api.Errno, x any) {
		t.Helper()
		if s != "" || code != api.ErrArg {
			t.Errorf("the part %v: got %q, %v", x, s, code)
		}
	}
	for _, x := range append(badSets(), api.NameSet{}, api.NameSet{Self: true, Names: []string{"if"}}) {
		s, code := printer.Names(x.(api.NameSet))
		refused(s, code, x)
	}
	for _, x := range badRanges() {
		s, code := printer.Range(x.(api.RangeText))
		refused(s, code, x)
	}
	for _, x := range badContexts() {
		s, code := printer.Context(x.(api.ContextText))
		refused(s, code, x)
	}
	for kind, validate := range map[int]bool{api.StmtConstrain: false, api.StmtValidate: true} {
		for _, x := range badExprs(kind) {
			s, code := printer.Constraint(x.(api.Expr), validate)
			refused(s, code, x)
		}
	}
	deep := in(0, "a")
	for range 1 << 16 {
		deep = not(deep)
	}
	s, code := printer.Constraint(deep, true)
	refused(s, code, "many nots")
}

// P8.3: parts may be longer than a source.
func TestLongParts(t *testing.T) {
	want := "{" + strings.Repeat(" a", api.MaxSource) + " }"
	if s, code := printer.Names(api.NameSet{Names: slices.Repeat([]string{"a"}, api.MaxSource)}); s != want || code != api.OK {
		t.Errorf("Names of many: got %d bytes, %v", len(s), code)
	}
	want = "u:r:t:s0:c0" + strings.Repeat(",c0", api.MaxSource-1)
	level := api.LevelText{Sens: "s0", Cats: slices.Repeat([]api.Span{{From: "c0"}}, api.MaxSource)}
	if s, code := printer.Context(api.ContextText{User: "u", Role: "r", Type: "t", Range: api.RangeText{Low: level}}); s != want || code != api.OK {
		t.Errorf("Context with many categories: got %d bytes, %v", len(s), code)
	}
	if s, code := printer.Range(api.RangeText{Low: sens("s0"), High: level}); s != "s0-"+want[len("u:r:t:"):] || code != api.OK {
		t.Errorf("Range with many categories: got %d bytes, %v", len(s), code)
	}
	want = "u1 in {" + strings.Repeat(" a", api.MaxSource) + " }"
	if s, code := printer.Constraint(in(0, slices.Repeat([]string{"a"}, api.MaxSource)...), false); s != want || code != api.OK {
		t.Errorf("Constraint with many names: got %d bytes, %v", len(s), code)
	}
}
