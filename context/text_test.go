package context_test

import (
	"math"
	"strings"
	"testing"

	"accesscontrol/api"
	"accesscontrol/context"
	"accesscontrol/level"
	"accesscontrol/linker"
	"accesscontrol/syntax"
)

// P19.2: texts, there and back.
func TestText(t *testing.T) {
	p := policy(t, base)
	s1 := only(lvl(1, 2))
	for s, c := range map[string]api.Context{
		"u:r1:a:s0":                         with(0, 1, 0, only(lvl(0, 0))),
		"u:r1:b:s0-s1:c0.c2":                with(0, 1, 1, api.Range{High: lvl(1, 7)}),
		"u:r2:c:s0:c0,c2-s1:c0,c2":          with(0, 2, 2, api.Range{Low: lvl(0, 5), High: lvl(1, 5)}),
		"v:r2:c:s1:c1":                      with(1, 2, 2, s1),
		"v:r2:c:s1:c1-s2:c0.c3":             with(1, 2, 2, api.Range{Low: lvl(1, 2), High: lvl(2, 15)}),
		"v:object_r:a:s0:c0.c1,c3-s2:c0.c3": with(1, 0, 0, api.Range{Low: lvl(0, 11), High: lvl(2, 15)}),
		"u:object_r:c:s2:c3":                with(0, 0, 2, only(lvl(2, 8))),
	} {
		checkText(t, p, c, s, api.OK)
		checkParse(t, p, s, c, api.OK)
	}
	p = policy(t, small)
	checkText(t, p, with(0, 1, 0, api.Range{}), "root:system:init_t:s0", api.OK)
	checkParse(t, p, "root:object_r:shell_t:s0", with(0, 0, 3, api.Range{}), api.OK)
	checkParse(t, p, "root:system:file_t:s0", api.Context{}, api.ErrContext)
	checkParse(t, p, "root:system:x:s0", api.Context{}, api.ErrNone)
	checkParse(t, p, "root:system", api.Context{}, api.ErrSyntax)
}

// P19.2: Text returns the error of Check.
func TestTextErrors(t *testing.T) {
	p := policy(t, base)
	for _, c := range []api.Context{
		with(2, 1, 0, api.Range{}), with(0, 4, 0, api.Range{}), with(0, 1, 3, api.Range{}), with(-1, 0, 0, api.Range{}),
		with(math.MinInt, math.MaxInt, 0, api.Range{}), with(0, 1, 0, only(lvl(3, 0))), with(0, 0, 0, only(lvl(0, 16))),
		with(0, 0, 0, api.Range{Low: lvl(1, 0)}), with(0, 3, 0, api.Range{}), with(0, 1, 2, api.Range{}), with(0, 1, 0, only(lvl(2, 0))),
	} {
		code := modelCode(p, c)
		if code == api.OK {
			t.Errorf("%v is valid", c)
		}
		checkText(t, p, c, "", code)
	}
}

// P19.2: aliases of types, and ranges that Text does not write.
func TestParse(t *testing.T) {
	p := policy(t, base)
	for s, c := range map[string]api.Context{
		"u:r1:d:s0":                      with(0, 1, 1, only(lvl(0, 0))),
		"u:r1:e:s0-s0":                   with(0, 1, 1, only(lvl(0, 0))),
		"u:object_r:d:s0":                with(0, 0, 1, only(lvl(0, 0))),
		"u:r1:a:s1:c2,c0.c1,c1":          with(0, 1, 0, only(lvl(1, 7))),
		"u:r1:a:s0:c0.c0-s1:c1.c2,c0":    with(0, 1, 0, api.Range{Low: lvl(0, 1), High: lvl(1, 7)}),
		"v:object_r:c:s2:c3,c0-s2:c0.c3": with(1, 0, 2, api.Range{Low: lvl(2, 9), High: lvl(2, 15)}),
	} {
		checkParse(t, p, s, c, api.OK)
	}
}

// P19.2: the errors of Parse, in their order.
func TestParseErrors(t *testing.T) {
	p := policy(t, base)
	for s, code := range map[string]api.Errno{
		"":                api.ErrSyntax,
		"u":               api.ErrSyntax,
		"::":              api.ErrSyntax,
		"u:r1:a":          api.ErrSyntax,
		"x:y:z":           api.ErrSyntax,
		"u:r1 a s0":       api.ErrSyntax,
		"u：r1：a：s0":       api.ErrSyntax, // other colons
		":::":             api.ErrNone,
		"::::::":          api.ErrNone,
		":r1:a:s0":        api.ErrNone,
		"u::a:s0":         api.ErrNone,
		"u:r1::s0":        api.ErrNone,
		"x:r1:a:s0":       api.ErrNone,
		"u:x:a:s0":        api.ErrNone,
		"u:r1:f:s0":       api.ErrNone,
		"u:r1:x:s0":       api.ErrNone, // an attribute
		"U:r1:a:s0":       api.ErrNone,
		" u:r1:a:s0":      api.ErrNone,
		"u:r1 :a:s0":      api.ErrNone,
		"u:r1:a\x00:s0":   api.ErrNone,
		"\xffu:r1:a:s0":   api.ErrNone,
		"é:r1:a:s0":       api.ErrNone,
		"r1:u:a:s0":       api.ErrNone,
		"u:a:r1:s0":       api.ErrNone,
		"u:r1:x:":         api.ErrNone, // ahead of those of the range
		"x:r1:a:s1-s0":    api.ErrNone,
		"u:x:a:!":         api.ErrNone,
		"u:x:c:s0":        api.ErrNone,
		"u:r1:a:":         api.ErrSyntax,
		"u:r1:a::":        api.ErrSyntax,
		"u:r1:a: s0":      api.ErrSyntax,
		"u:r1:a:s0:":      api.ErrSyntax,
		"u:r1:a:s0-":      api.ErrSyntax,
		"u:r1:a:s0:c0:c1": api.ErrSyntax,
		"u:r1:a:s0\xff":   api.ErrSyntax,
		"u:r1:a:s9 ":      api.ErrSyntax,
		"u:r1:a:s9":       api.ErrNone,
		"u:r1:a:s0:c9":    api.ErrNone,
		"u:r1:a:s0-s9":    api.ErrNone,
		"u:r1:a:s1-s0":    api.ErrLevel,
		"u:r1:a:s0:c2.c0": api.ErrLevel,
		"u:r1:c:":         api.ErrSyntax, // ahead of those of Check
		"u:r3:a:s9":       api.ErrNone,
		"u:r1:c:s1-s0":    api.ErrLevel,
		"u:r3:a:s0":       api.ErrContext,
		"v:r1:a:s1:c1":    api.ErrContext,
		"u:r1:c:s0":       api.ErrContext,
		"u:r2:d:s0":       api.ErrContext,
		"u:r1:a:s2":       api.ErrContext,
		"u:r1:a:s0:c3":    api.ErrContext,
		"v:r2:c:s0-s2:c1": api.ErrContext,
	} {
		checkParse(t, p, s, api.Context{}, code)
	}
	long := strings.Repeat("u", 1<<20)
	checkParse(t, p, long, api.Context{}, api.ErrSyntax)
	checkParse(t, p, long+":r1:a:s0", api.Context{}, api.ErrNone)
	checkParse(t, p, strings.Repeat(":", 1<<20), api.Context{}, api.ErrNone)
	checkParse(t, p, "u:r1:a:"+strings.Repeat("s0:", 1<<18), api.Context{}, api.ErrSyntax)
}

// pieces are what random texts consist of.
const pieces = "u0 u1 u2 r0 r1 r2 r3 object_r t0 t1 t2 t3 t4 t5 s0 s1 s2 c0 c1 c2 c3 c4 : - , . x"

// text picks a text that often denotes a context.
func (pick picker) text() string {
	word := func(l string) string { return strings.Split(l, " ")[pick(strings.Count(l, " ")+1)] }
	s := word("u0 u1 u2 u0 u1 x") + ":" + word("r0 r1 r2 r3 object_r object_r") + ":" + word("t0 t1 t2 t3 t4 t5") + ":" + word("s0 s1 s2")
	for range pick(3) {
		s += word(":c0 :c1 :c3.c1 :c1,c0 -s0 -s1 -s2:c0 ,c1 .c2")
	}
	if pick(6) == 0 {
		at := pick(len(s) + 1)
		s = s[:at] + word(pieces) + s[min(at+pick(3), len(s)):]
	}
	return s
}

// modelParse is the definition of Parse, by what lower layers say of the parts.
func modelParse(p api.Policy, s string) (api.Context, api.Errno) {
	parts := strings.SplitN(s, ":", 4)
	if len(parts) < 4 {
		return api.Context{}, api.ErrSyntax
	}
	user, hasUser := linker.Symbol(p, api.SymUser, parts[0])
	role, hasRole := linker.Symbol(p, api.SymRole, parts[1])
	kind, hasType := linker.Symbol(p, api.SymType, parts[2])
	if !hasUser || !hasRole || !hasType {
		return api.Context{}, api.ErrNone
	}
	r, code := level.Parse(parts[3], p.Sens, p.Cats)
	c := with(user, role, kind, r)
	if code == api.OK {
		code = modelCode(p, c)
	}
	if code != api.OK {
		return api.Context{}, code
	}
	return c, api.OK
}

// P19.2: Parse returns what the definition says. A text that it accepts is a context of a source, which the linker understands likewise.
func TestModelOfParse(t *testing.T) {
	count := map[api.Errno]int{}
	for seed := range 300 {
		pick := newPicker(seed)
		p := pick.policy(t)
		for range 100 {
			s := pick.text()
			want, code := modelParse(p, s)
			checkParse(t, p, s, want, code)
			count[code]++
			if code != api.OK {
				continue
			}
			text, f := syntax.Context(s)
			c, err := linker.Context(p, text)
			if f.Code != api.OK || c != want || err != api.OK {
				t.Errorf("the linker reads %q as %v, %v, %v", s, c, f, err)
			}
		}
	}
	for _, code := range []api.Errno{api.OK, api.ErrSyntax, api.ErrNone, api.ErrLevel, api.ErrContext} {
		if count[code] < 100 {
			t.Errorf("only %d times %v", count[code], code)
		}
	}
}

// P19.2, P19.5: Text is the inverse of Parse for valid contexts, and has the error of Check for others.
func TestBackFromText(t *testing.T) {
	valid := 0
	for seed := range 300 {
		pick := newPicker(seed)
		p := pick.policy(t)
		for range 30 {
			c := pick.context(p)
			s, code := context.Text(p, c)
			if code != modelCode(p, c) || (code == api.OK) != (s != "") {
				t.Errorf("Text(%v): got %q, %v", c, s, code)
			}
			if code == api.OK {
				checkParse(t, p, s, c, api.OK)
				valid++
			}
		}
	}
	if valid < 1500 {
		t.Errorf("only %d contexts are valid", valid)
	}
}

// P19.5: Parse is the inverse of Text for texts without aliases, with ranges as level.Text writes them.
func TestBackFromContext(t *testing.T) {
	same, other := 0, 0
	for seed := range 300 {
		pick := newPicker(seed)
		p := pick.policy(t)
		for range 50 {
			s := pick.text()
			c, code := context.Parse(p, s)
			if code != api.OK {
				continue
			}
			parts := strings.SplitN(s, ":", 4)
			levels, _ := level.Text(c.Range, p.Sens, p.Cats)
			if p.Types[c.Type].Name == parts[2] && levels == parts[3] {
				same++
				checkText(t, p, c, s, api.OK)
				continue
			}
			other++
			checkText(t, p, c, parts[0]+":"+parts[1]+":"+p.Types[c.Type].Name+":"+levels, api.OK)
		}
	}
	if same < 300 || other < 300 {
		t.Errorf("got %d, %d", same, other)
	}
}

// P19.7: what stands behind the third colon is that of level, and has the only errors with the role of objects.
func TestRangeOfText(t *testing.T) {
	count := map[api.Errno]int{}
	for seed := range 300 {
		pick := newPicker(seed)
		p := pick.policy(t)
		user, kind := pick(len(p.Users)), pick(len(p.Types))
		start := p.Users[user].Name + ":object_r:" + p.Types[kind].Name + ":"
		for range 50 {
			s := strings.SplitN(pick.text(), ":", 4)[3:]
			if len(s) == 0 {
				continue
			}
			r, code := level.Parse(s[0], p.Sens, p.Cats)
			want := with(user, 0, kind, r)
			if code != api.OK {
				want = api.Context{}
			}
			checkParse(t, p, start+s[0], want, code)
			count[code]++
			c := with(user, 0, kind, pick.context(p).Range)
			text, err := level.Text(c.Range, p.Sens, p.Cats)
			if err == api.OK {
				text = start + text
			}
			checkText(t, p, c, text, err)
		}
	}
	for _, code := range []api.Errno{api.OK, api.ErrSyntax, api.ErrNone, api.ErrLevel} {
		if count[code] < 100 {
			t.Errorf("only %d times %v", count[code], code)
		}
	}
}
