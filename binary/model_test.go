package binary_test

import (
	"math"
	"reflect"
	"strconv"
	"strings"

	"accesscontrol/api"
	"accesscontrol/linker"
	"accesscontrol/octet"
)

// format is the table of the chapter: the lists, and the fields of their elements; behind a slash stands the version from which on there is such a list or field.
const format = `
Classes: Name Perms
Types: Name Aliases Permissive/2
Attrs: Name Types
Roles: Name Types Next
Users: Name Roles Default Range
Bools: Name Value
Sens:
Cats:
Conds:
Rules: Kind Source Target Self Class Perms Cond
Trans: Kind Source Target Class Name/2 Result Cond
RoleTrans: Roles Types Class Result
Ranges/2: Source Target Class Range
Constraints: Class Perms Validate Expr
Sids: Name Context
Files/3: Pattern Kind Context
Asserts/3: Name Kind Source Target
`

// fieldsOf returns the names in a text that a version has.
func fieldsOf(text string, version int) []string {
	var l []string
	for _, name := range strings.Fields(text) {
		name, since, _ := strings.Cut(name, "/")
		if n, _ := strconv.Atoi(since); version >= n {
			l = append(l, name)
		}
	}
	return l
}

// lists calls a function for each list of a policy that a version has, with the fields of its elements.
func lists(p *api.Policy, version int, do func(list reflect.Value, fields []string)) {
	for _, line := range strings.Split(strings.TrimSpace(format), "\n") {
		name, fields, _ := strings.Cut(line, ":")
		for _, name := range fieldsOf(name, version) {
			do(reflect.ValueOf(p).Elem().FieldByName(name), fieldsOf(fields, version))
		}
	}
}

// operandsOf returns the operands that follow an operator: fields, or kids.
func operandsOf(op int) ([]string, int) {
	switch op {
	case api.ExprName:
		return []string{"A"}, 0
	case api.ExprCompare:
		return []string{"A", "Rel", "B"}, 0
	case api.ExprIn:
		return []string{"A", "Set"}, 0
	case api.ExprNot:
		return nil, 1
	}
	return nil, 2
}

// The kinds of numbers in an encoding.
const (
	plainNumber = iota
	listLength
	textLength
	setLength
	setElement
	categories
	boolean
	signed
	operator
)

// mark is where a number of a kind stands in an encoding.
type mark struct{ kind, from, to int }

// modelWriter writes encodings as the chapter describes them, and marks their numbers.
type modelWriter struct {
	b     []byte
	marks []mark
}

// encodeModel returns the encoding of a policy, without the checksum, and the numbers in its lists.
func encodeModel(p api.Policy, version int) (string, []mark) {
	var w modelWriter
	w.b = append(append(w.b, "ACPB"...), byte(version))
	lists(&p, version, w.list)
	return string(w.b), w.marks
}

// numberBytes returns the encoding of a number.
func numberBytes(n uint64) string {
	var b []byte
	for ; n > 127; n /= 128 {
		b = append(b, byte(n%128)+128)
	}
	return string(append(b, byte(n)))
}

func (w *modelWriter) number(kind int, n uint64) {
	from := len(w.b)
	w.b = append(w.b, numberBytes(n)...)
	w.marks = append(w.marks, mark{kind, from, len(w.b)})
}

func (w *modelWriter) list(l reflect.Value, fields []string) {
	w.number(listLength, uint64(l.Len()))
	for i := range l.Len() {
		if len(fields) == 0 {
			w.value("", l.Index(i))
		}
		for _, name := range fields {
			w.value(name, l.Index(i).FieldByName(name))
		}
	}
}

// value writes a value, which may be a field with a name.
func (w *modelWriter) value(name string, v reflect.Value) {
	switch x := v.Interface().(type) {
	case string:
		w.number(textLength, uint64(len(x)))
		w.b = append(w.b, x...)
	case bool:
		w.number(boolean, map[bool]uint64{true: 1}[x])
	case int:
		w.integer(name, x)
	case uint32:
		w.number(plainNumber, uint64(x))
	case uint64:
		w.number(categories, x)
	case []string:
		w.list(v, nil)
	case api.Set:
		w.set(x)
	case api.Expr:
		w.expression(v)
	default: // a level, a range, a context
		for i := range v.NumField() {
			w.value(v.Type().Field(i).Name, v.Field(i))
		}
	}
}

func (w *modelWriter) integer(name string, n int) {
	switch {
	case name == "Op":
		w.number(operator, uint64(n))
	case name == "Cond" && n < 0:
		w.number(signed, uint64(-2*n-1))
	case name == "Cond":
		w.number(signed, uint64(2*n))
	default:
		w.number(plainNumber, uint64(n))
	}
}

func (w *modelWriter) set(s api.Set) {
	k := 4
	for k > 0 && s[k-1] == 0 {
		k--
	}
	w.number(setLength, uint64(k))
	for i := range k {
		w.number(setElement, s[i])
	}
}

func (w *modelWriter) expression(v reflect.Value) {
	op := v.FieldByName("Op")
	w.value("Op", op)
	fields, kids := operandsOf(int(op.Int()))
	for _, name := range fields {
		w.value(name, v.FieldByName(name))
	}
	for i := range kids {
		w.expression(v.FieldByName("Kids").Index(i))
	}
}

// modelReader reads the bytes from one on. It panics with an error.
type modelReader struct {
	b  string
	at int
}

// decodeModel decodes bytes as the chapter describes it.
func decodeModel(b []byte) (p api.Policy, version int, code api.Errno) {
	defer func() {
		if e, ok := recover().(api.Errno); ok {
			p, version, code = api.Policy{}, 0, e
		}
	}()
	body, code := octet.Open(b)
	r := &modelReader{b: string(body)}
	r.check(code == api.OK, code)
	r.check(len(r.b) >= 4, api.ErrShort)
	r.check(r.b[:4] == "ACPB", api.ErrForm)
	r.at = 4
	n := r.any()
	r.check(n == 1 || n == 2 || n == 3, api.ErrVersion)
	version = int(n)
	lists(&p, version, r.list)
	r.check(r.at == len(r.b), api.ErrForm)
	code = linker.Check(p)
	r.check(code == api.OK, code)
	return p, version, api.OK
}

func (r *modelReader) check(holds bool, code api.Errno) {
	if !holds {
		panic(code)
	}
}

// any reads a number of up to 64 bits.
func (r *modelReader) any() uint64 {
	n, factor := uint64(0), uint64(1)
	for i := 1; ; i++ {
		r.check(r.at < len(r.b), api.ErrShort)
		c := r.b[r.at]
		r.at++
		r.check(i < 10 || c <= 1, api.ErrForm)
		r.check(i == 1 || c != 0, api.ErrForm)
		n += uint64(c%128) * factor
		factor *= 128
		if c < 128 {
			return n
		}
	}
}

func (r *modelReader) number() uint64 {
	n := r.any()
	r.check(n < 1<<32, api.ErrRange)
	return n
}

func (r *modelReader) list(l reflect.Value, fields []string) {
	for n := r.number(); n > 0; n-- {
		e := reflect.New(l.Type().Elem()).Elem()
		r.element(e, fields, 1)
		l.Set(reflect.Append(l, e))
	}
}

func (r *modelReader) element(v reflect.Value, fields []string, level int) {
	if len(fields) == 0 {
		r.value(v, level)
	}
	for _, name := range fields {
		field := v.FieldByName(name)
		if name != "Cond" {
			r.value(field, level)
			continue
		}
		n := r.any()
		signed := int64(n / 2)
		if n%2 == 1 {
			signed = -signed - 1
		}
		r.check(math.MinInt32 <= signed && signed <= math.MaxInt32, api.ErrRange)
		field.SetInt(signed)
	}
}

func (r *modelReader) value(v reflect.Value, level int) {
	switch v.Interface().(type) {
	case string:
		n := r.any()
		r.check(n <= api.MaxPath, api.ErrLong)
		r.check(n <= uint64(len(r.b)-r.at), api.ErrShort)
		v.SetString(r.b[r.at : r.at+int(n)])
		r.at += int(n)
	case bool:
		n := r.number()
		r.check(n < 2, api.ErrForm)
		v.SetBool(n == 1)
	case int:
		v.SetInt(int64(r.number()))
	case uint32:
		v.SetUint(r.number())
	case uint64:
		v.SetUint(r.any())
	case []string:
		r.list(v, nil)
	case api.Set:
		k := r.any()
		r.check(k <= 4, api.ErrForm)
		last := uint64(1)
		for i := range int(k) {
			last = r.any()
			v.Index(i).SetUint(last)
		}
		r.check(last != 0, api.ErrForm)
	case api.Expr:
		r.expression(v, level)
	default: // a level, a range, a context
		for i := range v.NumField() {
			r.value(v.Field(i), level)
		}
	}
}

func (r *modelReader) expression(v reflect.Value, level int) {
	op := int(r.number())
	r.check(op >= api.ExprName && op <= api.ExprIn, api.ErrForm)
	r.check(level <= api.MaxNest, api.ErrLong)
	v.FieldByName("Op").SetInt(int64(op))
	fields, kids := operandsOf(op)
	for _, name := range fields {
		r.value(v.FieldByName(name), level)
	}
	for range kids {
		kid := reflect.New(v.Type()).Elem()
		r.expression(kid, level+1)
		v.FieldByName("Kids").Set(reflect.Append(v.FieldByName("Kids"), kid))
	}
}
