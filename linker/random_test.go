package linker_test

import (
	"slices"
	"strings"
	"testing"

	"accesscontrol/api"
)

// declarations are declared by one of the random modules; each of them requires all of it.
const (
	declarations = "class k { r w x };\nclass j { w r };\nattribute x;\nattribute y;\nattribute e;\ntype a, x;\ntype b alias { d };\ntype c, y, x;\ntypeattribute d y;\nbool p true;\nbool q false;\nsensitivity s; sensitivity t;\ncategory g; category h; category i;\nrole m types { a b };\nrole n types x;\nrole l;\nuser u roles { m n } level s range s-t:g.i;\nuser v roles { n l } level t range s-t;"
	needed       = "require class k { r w }; require class j { w r }; require attribute x, y, e; require type a, b, c, d; require bool p, q; require sensitivity s, t; require category g, h, i; require role m, n, l; require user u, v;\n"
)

// random returns one to three random modules. Most of them have no fault.
func random(t *testing.T, seed int) []api.Module {
	t.Helper()
	pick := newPicker(seed)
	sources := slices.Repeat([]string{needed}, 1+pick(3))
	for _, declaration := range pick.shuffled(strings.Split(declarations, "\n")) {
		i := pick(len(sources))
		sources[i] += declaration + "\n"
		if pick(1000) == 0 {
			sources[pick(len(sources))] += declaration + "\n"
		}
		if pick(6) == 0 {
			sources[pick(len(sources))] += pick.statement()
		}
	}
	for i := range sources {
		for range pick(6) {
			sources[i] += pick.statement()
		}
	}
	if pick(20) == 0 {
		sources[pick(len(sources))] += pick.word("require+type+f; require+class+k+{+x+}; require+class+j+{+x+}; optional+{+type+z;+} class+z+{+r+r+}; permissive+z; if+p+{+type+z;+} role+object_r; allow+a+b:k+z;")
	}
	l := modules(t, sources...)
	if pick(50) == 0 {
		l[len(l)-1].Name = "m0"
	}
	return l
}

func (pick picker) shuffled(l []string) []string {
	for i := range l {
		j := i + pick(len(l)-i)
		if pick(3) > 0 {
			j = i
		}
		l[i], l[j] = l[j], l[i]
	}
	return l
}

func (pick picker) types() string {
	return pick.word("a b c d x y a b x {a+b} {a-a} {a+d-b+-x} * ~{*-b} ~{*} ~{*-x} ~a ~y {-a} {*-a+-b} e ~e {e+c}")
}

func (pick picker) class() string {
	return pick.word("k k j {k+j} {j+k} {k-j} {k-k} * ~k ~{*} {*-j}")
}

func (pick picker) perms() string {
	return pick.word("r w r w {r+w} * {*-r} ~w {w-w} {r-w} ~{*} ~{r+w}")
}

func (pick picker) target() string {
	if pick(4) > 0 {
		return pick.types()
	}
	return pick.word("self {self} {a+self} ~{self} ~{*+self} {a-a+self} {e+self}")
}

// conditional is a statement that may stand in a block of if.
func (pick picker) conditional() string {
	if pick(3) == 0 {
		text := ""
		word := pick.word("type_transition type_change type_member")
		if word == "type_transition" {
			text = pick.word("_ \"n\" \"o.p\"")
		}
		return word + " " + pick.types() + " " + pick.types() + " : " + pick.class() + " " + pick.word("a b c d") + " " + strings.Trim(text, "_") + ";\n"
	}
	return pick.word("allow allow auditallow dontaudit") + " " + pick.types() + " " + pick.target() + " : " + pick.class() + " " + pick.perms() + ";\n"
}

func (pick picker) condition() string {
	text := "if " + pick.word("p q p q !p p+&&+q q+&&+p p+||+!q p+^+q p+==+q p+!=+q !(p+&&+q) p+&&+!p") + " {\n" + pick.conditional()
	for range pick(3) {
		text += pick.conditional()
	}
	if pick(2) == 0 {
		text += "} else {\n" + pick.conditional()
	}
	return text + "}\n"
}

func (pick picker) roles() string {
	if pick(40) == 0 {
		return pick.word("object_r {*-object_r} ~object_r")
	}
	return pick.word("m n l m n {m+l} {m-m} {m+n-n} * ~m ~{*-l} ~{*}")
}

func (pick picker) levels() string {
	if pick(30) == 0 {
		return pick.word("t-s s:h.g s:g-t:h")
	}
	return pick.word("s t s-t s:g-t:g.h s-s:h,g,h t:h.h-t:g.i s-t:g.i t:i")
}

func (pick picker) context() string {
	return pick.word("u:object_r:a v:object_r:b u:object_r:d v:object_r:c u:m:a u:m:d u:n:c u:n:a v:n:a u:l:a v:m:a u:n:b") + ":" + pick.levels()
}

func (pick picker) expression(contexts string) string {
	text := pick.comparison(contexts)
	for range pick(3) {
		text = pick.word("(+ !+(+") + text + " ) " + pick.word("&& ||") + " " + pick.comparison(contexts)
	}
	return text
}

func (pick picker) comparison(contexts string) string {
	first, second := pick.word(contexts), pick.word(contexts)
	switch pick(5) {
	case 0:
		return "t" + first + " in " + pick.word("a {+b+d+} x {+a+y+} e {+e+} {+e+c+}")
	case 1:
		return pick.word("r" + first + "+in+object_r r" + first + "+in+{+m+n+} u" + first + "+in+v u" + first + "+in+{+v+u+}")
	case 2:
		return pick.word("l h") + first + " " + pick.word("dom domby incomp == !=") + " " + pick.word("l h") + second
	}
	sort := pick.word("u r t")
	if pick(60) == 0 {
		return pick.word("l1+in+a u1+==+r2 t1+dom+t2 l1+==+t1")
	}
	return sort + first + " " + pick.word("== !=") + " " + sort + second
}

// statement is a statement of any kind that declares and requires nothing.
func (pick picker) statement() string {
	switch pick(16) {
	case 0:
		return "roleallow " + pick.roles() + " " + pick.roles() + ";\n"
	case 1:
		return "role_transition " + pick.roles() + " " + pick.types() + " : " + pick.class() + " " + pick.word("m n l m n l m n l object_r") + ";\n"
	case 2:
		return "range_transition " + pick.types() + " " + pick.types() + " : " + pick.class() + " " + pick.levels() + ";\n"
	case 3:
		return "sid " + pick.word("kernel root unlabeled o z") + " " + pick.context() + ";\n"
	case 4:
		return "filecon \"/" + pick.word("a b .*") + "\" " + pick.word("any regular socket") + " " + pick.context() + ";\n"
	case 5:
		return "constrain " + pick.class() + " " + pick.perms() + " " + pick.expression("1 2") + ";\n"
	case 6:
		return "validatetrans " + pick.class() + " " + pick.expression("1 2 3") + ";\n"
	case 7:
		return "permissive " + pick.types() + ";\n"
	case 8:
		return "assert " + pick.word("o z y w v") + " " + pick.word("noflow nodomain separate") + " " + pick.types() + " " + pick.types() + ";\n"
	case 9:
		return "neverallow " + pick.types() + " " + pick.target() + " : " + pick.class() + " " + pick.perms() + ";\n"
	case 10, 11, 12:
		return pick.condition()
	}
	return pick.conditional()
}
