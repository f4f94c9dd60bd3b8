package binary_test

import (
	"math"
	"strings"
	"testing"

	"accesscontrol/api"
	"accesscontrol/binary"
	"accesscontrol/linker"
	"accesscontrol/octet"
)

// beginning is an encoding in version 1 up to the list of conditions: the boolean x, no type and no class.
const beginning = "ACPB\x01\x00\x00\x00\x01\x08object_r\x00\x00\x00\x01\x01x\x00\x00\x00"

// noLists are the lists behind the conditions in version 1, without elements.
const noLists = "\x00\x00\x00\x00\x00"

// P25.3, P25.4: the errors of the seal, and of what stands in front of the lists.
func TestBeginning(t *testing.T) {
	for _, b := range []string{"", "A", "ACP", "\xc5\x9d\x1c"} {
		checkBeginning(t, []byte(b), api.ErrShort)
	}
	for _, b := range []string{"ACPB", "ACPB\x01\x00\x00\x00\x00", "\x00\x00\x00\x00"} {
		checkBeginning(t, []byte(b), api.ErrSum)
	}
	for body, code := range map[string]api.Errno{
		"":             api.ErrShort,
		"A":            api.ErrShort,
		"ACP":          api.ErrShort,
		"xyz":          api.ErrShort,
		"ACPC":         api.ErrForm,
		"acpb\x01":     api.ErrForm,
		"XCPB\x04":     api.ErrForm,
		"\x00ACPB\x01": api.ErrForm,
		"ACPB":         api.ErrShort,
		"ACPB\x80":     api.ErrShort,
		"ACPB\x81\x00": api.ErrForm,
		"ACPB" + strings.Repeat("\xff", 9) + "\x02": api.ErrForm,
		"ACPB\x00":                             api.ErrVersion,
		"ACPB\x04":                             api.ErrVersion,
		"ACPB\x04\x01":                         api.ErrVersion,
		"ACPB\x81\x02":                         api.ErrVersion,
		"ACPB" + numberBytes(1<<32+1):          api.ErrVersion,
		"ACPB" + numberBytes(1<<63+1):          api.ErrVersion,
		"ACPB" + numberBytes(math.MaxUint64):   api.ErrVersion,
		"ACPB" + numberBytes(math.MaxUint64-1): api.ErrVersion,
	} {
		checkBeginning(t, octet.Seal([]byte(body)), code)
	}
}

// checkBeginning checks an error that Decode and Version have.
func checkBeginning(t *testing.T, b []byte, code api.Errno) {
	t.Helper()
	checkDecode(t, b, api.Policy{}, 0, code)
	if n, e := binary.Version(b); n != 0 || e != code {
		t.Errorf("Version(%q): got %d, %v, want %v", b, n, e, code)
	}
}

// P25.4: the version is read without what is behind it.
func TestVersion(t *testing.T) {
	for _, version := range []int{1, 2, 3} {
		for _, rest := range []string{"", "\x00", "\xff\xff", "a policy"} {
			b := octet.Seal([]byte("ACPB" + string(rune(version)) + rest))
			if n, code := binary.Version(b); n != version || code != api.OK {
				t.Errorf("Version(%q): got %d, %v", b, n, code)
			}
			if _, _, code := binary.Decode(b); code == api.OK {
				t.Errorf("Decode(%q): got no error", b)
			}
		}
	}
	for version := 3; version >= 1; version-- {
		b := encoded(t, newPicker(version).policy(t, version), 3)
		if n, code := binary.Version(b); n != 3 || code != api.OK {
			t.Errorf("got %d, %v", n, code)
		}
	}
}

// P25.3: bytes that end too early, anywhere.
func TestShort(t *testing.T) {
	for version, p := range map[int]api.Policy{1: plain(), 2: plain(), 3: full()} {
		body := unsealed(encoded(t, p, version))
		for n := range body {
			refused(t, body[:n], api.ErrShort)
		}
	}
}

// P25.3: bytes behind the last list come ahead of the error of the policy.
func TestBehindTheEnd(t *testing.T) {
	for version, p := range map[int]api.Policy{1: plain(), 2: plain(), 3: full()} {
		body := unsealed(encoded(t, p, version))
		for _, rest := range []string{"\x00", "\xff", body} {
			refused(t, body+rest, api.ErrForm)
		}
		p.Classes = append(p.Classes, p.Classes...)
		twice, _ := encodeModel(p, version)
		refused(t, twice, api.ErrTwice)
		refused(t, twice+"\x00", api.ErrForm)
	}
	refused(t, unsealed(encoded(t, plain(), 2))+"\x00\x00", api.ErrForm) // the lists of version 3
}

// P25.3: each number of an encoding has its range. A byte behind the end keeps the policy from being checked.
func TestNumbers(t *testing.T) {
	large := []struct {
		n    uint64
		want map[int]api.Errno // ErrForm where the number is read
	}{
		{1 << 32, map[int]api.Errno{
			plainNumber: api.ErrRange, listLength: api.ErrRange, boolean: api.ErrRange, operator: api.ErrRange, signed: api.ErrRange,
			textLength: api.ErrLong, setLength: api.ErrForm, setElement: api.ErrForm, categories: api.ErrForm,
		}},
		{1<<32 + 1, map[int]api.Errno{
			plainNumber: api.ErrRange, listLength: api.ErrRange, boolean: api.ErrRange, operator: api.ErrRange, signed: api.ErrRange,
			textLength: api.ErrLong, setLength: api.ErrForm, setElement: api.ErrForm, categories: api.ErrForm,
		}},
		{math.MaxUint64, map[int]api.Errno{
			plainNumber: api.ErrRange, listLength: api.ErrRange, boolean: api.ErrRange, operator: api.ErrRange, signed: api.ErrRange,
			textLength: api.ErrLong, setLength: api.ErrForm, setElement: api.ErrForm, categories: api.ErrForm,
		}},
		{1<<32 - 1, map[int]api.Errno{
			plainNumber: api.ErrForm, boolean: api.ErrForm, operator: api.ErrForm, signed: api.ErrForm,
			textLength: api.ErrLong, setLength: api.ErrForm, setElement: api.ErrForm, categories: api.ErrForm,
		}},
		{257, map[int]api.Errno{textLength: api.ErrLong, operator: api.ErrForm, boolean: api.ErrForm, setLength: api.ErrForm}},
		{5, map[int]api.Errno{setLength: api.ErrForm, boolean: api.ErrForm}},
		{2, map[int]api.Errno{boolean: api.ErrForm}},
		{0, map[int]api.Errno{operator: api.ErrForm}},
		{10, map[int]api.Errno{operator: api.ErrForm}},
	}
	for version, p := range map[int]api.Policy{1: plain(), 2: plain(), 3: full()} {
		body, marks := encodeModel(p, version)
		seen := map[int]bool{}
		for _, m := range marks {
			seen[m.kind] = true
			for _, x := range large {
				if code, ok := x.want[m.kind]; ok {
					refused(t, body[:m.from]+numberBytes(x.n)+body[m.to:]+"\x00", code)
				}
			}
			refused(t, body[:m.from]+"\x80\x00"+body[m.to:], api.ErrForm)
			refused(t, body[:m.from]+strings.Repeat("\x80", 9)+"\x02"+body[m.to:], api.ErrForm)
			refused(t, body[:m.from]+"\x80", api.ErrShort)
		}
		if len(seen) != operator+1 {
			t.Errorf("version %d: got only numbers of the kinds %v", version, seen)
		}
	}
}

// P25.3: a list may have a great number of elements, and none of them.
func TestLongLists(t *testing.T) {
	_, marks := encodeModel(full(), 3)
	body := unsealed(encoded(t, full(), 3))
	for _, m := range marks {
		if m.kind == listLength {
			refused(t, body[:m.from]+numberBytes(1<<32-1), api.ErrShort)
			refused(t, body[:m.from]+numberBytes(1<<31), api.ErrShort)
		}
	}
	p := plain()
	p.Rules = make([]api.Rule, api.MaxRules+1)
	long, _ := encodeModel(p, 1)
	refused(t, long, api.ErrLong)
}

// P25.3: Cond from -2^31 to 2^31 - 1. Those that the policy does not have are the matter of linker.Check.
func TestConds(t *testing.T) {
	body, marks := encodeModel(plain(), 1)
	for _, m := range marks {
		if m.kind != signed {
			continue
		}
		for _, x := range []struct {
			cond int64
			code api.Errno
		}{
			{math.MaxInt32, api.ErrForm}, {math.MaxInt32 + 1, api.ErrRange}, {math.MinInt32, api.ErrForm}, {math.MinInt32 - 1, api.ErrRange},
			{math.MaxInt64, api.ErrRange}, {math.MinInt64, api.ErrRange},
		} {
			refused(t, body[:m.from]+string(octet.PutSigned(nil, x.cond))+body[m.to:]+"\x00", x.code)
		}
		for _, cond := range []int64{3, -3, math.MaxInt32, math.MinInt32} {
			refused(t, body[:m.from]+string(octet.PutSigned(nil, cond))+body[m.to:], api.ErrRange)
		}
	}
}

// P25.3: texts have at most MaxPath bytes; which texts are names is the matter of linker.Check.
func TestTexts(t *testing.T) {
	types := func(length int, name string) string {
		return "ACPB\x01\x00\x01" + numberBytes(uint64(length)) + name + "\x00\x00\x01\x08object_r\x00\x00" + strings.Repeat("\x00", 10)
	}
	a := strings.Repeat("a", api.MaxPath+1)
	refused(t, types(api.MaxPath, a[:api.MaxPath]), api.ErrName)
	refused(t, types(api.MaxPath+1, a), api.ErrLong)
	refused(t, types(api.MaxPath+1, "a"), api.ErrLong)
	refused(t, types(api.MaxPath, "a"), api.ErrShort)
	refused(t, types(0, ""), api.ErrName)
	refused(t, types(2, "a\x00"), api.ErrName)
	p := api.Policy{Types: []api.Type{{Name: a[:api.MaxName]}}, Roles: []api.Role{{Name: api.ObjectRole}}}
	checkDecode(t, octet.Seal([]byte(types(api.MaxName, a[:api.MaxName]))), p, 1, api.OK)
	q := full()
	q.Files[0].Pattern = strings.Repeat("~", api.MaxPath)
	checkDecode(t, encoded(t, q, 3), q, 3, api.OK)
}

// P25.3: expressions with too many levels, found at the Op behind its other errors.
func TestDepth(t *testing.T) {
	not, nots := string(rune(api.ExprNot)), strings.Repeat(string(rune(api.ExprNot)), api.MaxNest)
	refused(t, beginning+"\x01"+nots+"\x01", api.ErrLong)
	refused(t, beginning+"\x01"+nots+"\x01\x00"+noLists, api.ErrLong)
	refused(t, beginning+"\x01"+nots+not, api.ErrLong)
	refused(t, beginning+"\x01"+nots+"\x00", api.ErrForm)
	refused(t, beginning+"\x01"+nots+"\x0a", api.ErrForm)
	refused(t, beginning+"\x01"+nots+numberBytes(1<<32), api.ErrRange)
	refused(t, beginning+"\x01"+nots+"\x80\x00", api.ErrForm)
	refused(t, beginning+"\x01"+nots, api.ErrShort)
	for op := api.ExprName; op <= api.ExprIn; op++ {
		refused(t, beginning+"\x01"+nots+string(rune(op)), api.ErrLong)
	}
	deep := beginning + "\x01" + nots[1:] + "\x01\x00" + noLists
	p, n, code := binary.Decode(octet.Seal([]byte(deep)))
	if n != 1 || code != api.OK || len(p.Conds) != 1 || unsealed(encoded(t, p, 1)) != deep {
		t.Errorf("got %s, %d, %v", brief(p), n, code)
	}
	// The second operand, and the expression of a constraint.
	ands := strings.Repeat("\x03\x01\x00", api.MaxNest-1)
	refused(t, beginning+"\x01"+ands+"\x03\x01", api.ErrLong)
	if _, _, code := binary.Decode(octet.Seal([]byte(beginning + "\x01" + ands + "\x01\x00" + noLists))); code != api.OK {
		t.Errorf("got %v", code)
	}
	constraint := beginning + "\x00\x00\x00\x00\x01\x00\x00\x01"
	refused(t, constraint+nots+"\x08\x00\x00\x00\x00", api.ErrLong)
	refused(t, constraint+nots[1:]+"\x08\x00\x00\x00\x00", api.ErrRange) // there is no class
}

// P25.3: all operators are read, in conditions and in constraints; which of them may stand there is the matter of linker.Check.
func TestOperators(t *testing.T) {
	for op, operands := range map[int]string{
		api.ExprName: "\x00", api.ExprNot: "\x01\x00", api.ExprAnd: "\x01\x00\x01\x00", api.ExprOr: "\x01\x00\x01\x00", api.ExprXor: "\x01\x00\x01\x00",
		api.ExprSame: "\x01\x00\x01\x00", api.ExprDiffer: "\x01\x00\x01\x00", api.ExprCompare: "\x00\x01\x00", api.ExprIn: "\x02\x01\x01",
	} {
		want := api.OK
		if op >= api.ExprCompare {
			want = api.ErrArg
		}
		b := octet.Seal([]byte(beginning + "\x01" + string(rune(op)) + operands + noLists))
		if _, _, code := binary.Decode(b); code != want {
			t.Errorf("the condition %q: got %v, want %v", b, code, want)
		}
		refused(t, beginning+"\x00\x00\x00\x00\x01\x00\x00\x01"+string(rune(op))+operands+"\x00", api.ErrRange) // there is no class
	}
}

// P25.3: of two errors, the first one from left to right.
func TestLeftToRight(t *testing.T) {
	for _, x := range []struct {
		body string
		want api.Errno
	}{
		{"ACPX\x09", api.ErrForm},
		{"ACPB\x09\xff", api.ErrVersion},
		{"ACPB\x01" + numberBytes(1<<32) + "\x80\x00", api.ErrRange},
		{"ACPB\x01\x80\x00" + numberBytes(1<<32), api.ErrForm},
		{"ACPB\x01\x01\x81\x02" + "a", api.ErrLong},
		{"ACPB\x01\x01\x05a", api.ErrShort},
		{"ACPB\x02\x00\x01\x01a\x00\x02\x80\x00", api.ErrForm},
		{"ACPB\x02\x00\x01\x01a\x00" + numberBytes(1<<32) + "\x02", api.ErrRange},
		{"ACPB\x01\x00\x00\x01\x01a\x05" + numberBytes(1<<32), api.ErrForm},
		{"ACPB\x01\x00\x00\x01\x01a\x01\x00" + numberBytes(1<<32), api.ErrForm},
		{"ACPB\x01\x00\x00\x01\x01a\x01\x01" + numberBytes(1<<32), api.ErrRange},
		{beginning + noLists, api.ErrShort},
		{beginning + "\x00" + noLists + "\x00", api.ErrForm},
	} {
		refused(t, x.body, x.want)
	}
}

// P25.3: at last the error of linker.Check.
func TestErrorsOfPolicies(t *testing.T) {
	for _, x := range []struct {
		want  api.Errno
		spoil func(*api.Policy)
	}{
		{api.ErrArg, func(p *api.Policy) { p.Roles = nil }},
		{api.ErrName, func(p *api.Policy) { p.Classes[0].Name = "" }},
		{api.ErrTwice, func(p *api.Policy) { p.Types[0].Aliases[0] = "a" }},
		{api.ErrRange, func(p *api.Policy) { p.Users[0].Roles = api.Set{1} }},
		{api.ErrLevel, func(p *api.Policy) { p.Users[0].Default.Sens = 7 }},
		{api.ErrArg, func(p *api.Policy) { p.Conds[0].Op = api.ExprCompare }},
		{api.ErrKind, func(p *api.Policy) { p.Rules[0].Kind = 0 }},
		{api.ErrRange, func(p *api.Policy) { p.Rules[0].Perms = 4 }},
		{api.ErrLong, func(p *api.Policy) { p.Rules = make([]api.Rule, api.MaxRules+1) }},
		{api.ErrArg, func(p *api.Policy) { p.Trans[0].Name = "log" }},
		{api.ErrLevel, func(p *api.Policy) { p.Ranges[0].Range.Low.Sens = 2 }},
		{api.ErrKind, func(p *api.Policy) { p.Constraints[0].Expr.B = 0 }},
		{api.ErrContext, func(p *api.Policy) { p.Sids[0].Context.Type = 0 }},
		{api.ErrName, func(p *api.Policy) { p.Files[0].Pattern = "\n" }},
		{api.ErrTwice, func(p *api.Policy) { p.Asserts = append(p.Asserts, p.Asserts[0]) }},
	} {
		p := changed(full(), x.spoil)
		if code := linker.Check(p); code != x.want {
			t.Errorf("Check(%s): got %v, want %v", brief(p), code, x.want)
		}
		body, _ := encodeModel(p, 3)
		refused(t, body, x.want)
	}
	refused(t, "ACPB\x01"+strings.Repeat("\x00", 14), api.ErrArg) // no role of objects
}

// P25.3: damaged encodings of random policies, as the model decodes them.
func TestDamage(t *testing.T) {
	count := map[api.Errno]int{}
	for seed := range 90 {
		pick := newPicker(seed)
		version := 1 + seed%3
		whole := unsealed(encoded(t, pick.policy(t, version), version))
		if len(whole) > 2000 {
			continue
		}
		for range 200 {
			damaged := []byte(whole)
			for range 1 + pick(2) {
				damaged = pick.damage(damaged)
			}
			b := octet.Seal(damaged)
			p, n, code := decodeModel(b)
			count[code]++
			checkDecode(t, b, p, n, code)
			if v, e := binary.Version(b); code == api.OK && v != n || e != api.OK && e != code {
				t.Errorf("seed %d: Version of %q: got %d, %v, want %d, %v", seed, b, v, e, n, code)
			}
		}
	}
	for code, least := range map[api.Errno]int{api.OK: 100, api.ErrShort: 1000, api.ErrForm: 1000, api.ErrRange: 300, api.ErrLong: 30, api.ErrVersion: 20, api.ErrName: 100, api.ErrTwice: 20, api.ErrArg: 20, api.ErrKind: 10, api.ErrLevel: 10} {
		if count[code] < least {
			t.Errorf("only %d damaged encodings with the error %v", count[code], code)
		}
	}
}

// damage changes bytes at one place.
func (pick picker) damage(b []byte) []byte {
	at := pick(len(b) + 1)
	if pick(8) == 0 {
		at = min(len(b), pick(12))
	}
	before, behind := append([]byte{}, b[:at]...), b[at:]
	values := []string{"0", "1", "_", "\x00", "\x01", "\x02", "\x03", "\x05", "\x08", "\x09", "\x0a", "\x7f", "\x80", "\xff", "\x80\x01", "\x80\x00", numberBytes(1 << 32), numberBytes(1<<32 - 1), numberBytes(math.MaxUint64)}
	switch pick(6) {
	case 0:
		behind = nil
	case 1:
		behind = behind[min(len(behind), 1+pick(3)):]
	case 2:
		before = append(before, values[pick(len(values))]...)
	default:
		before = append(before, values[pick(len(values))]...)
		behind = behind[min(len(behind), 1):]
	}
	return append(before, behind...)
}
