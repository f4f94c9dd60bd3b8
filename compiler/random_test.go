package compiler_test

import "strings"

// needed is what the modules behind the first one require, which declares all of it.
const (
	declared = "class k { r w x };\nclass j { w };\nattribute x;\ntype a, x;\ntype b alias { d }, x;\ntype c;\nbool p true;\nbool q false;\nsensitivity s;\nsensitivity t;\nrole m types { a b };\nrole n types x;\nuser u roles { m n } level s range s-t;\n"
	needed   = "require class k { r w x };\nrequire class j { w };\nrequire attribute x;\nrequire type a, b, c;\nrequire bool p, q;\nrequire sensitivity s, t;\nrequire role m, n;\nrequire user u;\n"
)

// sources picks one to three sources. About half of them have no fault.
func (pick picker) sources() []string {
	var l []string
	for i := range 1 + pick(3) {
		src := needed
		if i == 0 {
			src = declared
		}
		for range pick(8) {
			src += pick.statement() + "\n"
		}
		if pick(12) == 0 {
			src += pick.faulty() + "\n"
		}
		l = append(l, "module "+strings.Repeat("m", i+1)+" 1;\n"+src)
	}
	if pick(30) == 0 {
		l = append(l, l[pick(len(l))])
	}
	return l
}

func (pick picker) types() string { return pick.word("a b c x a b {a+b} * ~x {*-c} {a+c}") }

func (pick picker) rule(words string) string {
	return pick.word(words) + " " + pick.types() + " " + pick.word("a b c x self {a+self}") + " : " + pick.word("k k {k+j} k") + " " + pick.word("w w *") + ";"
}

func (pick picker) transition() string {
	return pick.word("type_transition type_change type_member") + " " + pick.word("a b c {a+b}") + " " + pick.word("a b c") + " : " + pick.word("k j") + " " + pick.word("a a a b") + ";"
}

func (pick picker) conditional() string {
	if pick(3) == 0 {
		return pick.transition()
	}
	return pick.rule("allow auditallow dontaudit")
}

func (pick picker) statement() string {
	switch pick(13) {
	case 0:
		return "if " + pick.word("p q !p p+&&+q p+||+!p") + " { " + pick.conditional() + " } else { " + pick.conditional() + " " + pick.conditional() + " }"
	case 1:
		return "optional { require type " + pick.word("a e f") + "; " + pick.statement() + " } else { " + pick.statement() + " }"
	case 2:
		return "filecon \"/" + pick.word("a b c d") + "\" any u:" + pick.word("object_r:a object_r:b m:a") + ":s;"
	case 3:
		return "role_transition m " + pick.types() + " : k " + pick.word("m m n") + ";"
	case 4:
		return "range_transition " + pick.word("a b") + " " + pick.word("a b c") + " : k " + pick.word("s s s-t") + ";"
	case 5:
		return "constrain k { r w } " + pick.word("u1+==+u2 l1+dom+l2 t1+in+x") + ";"
	case 6:
		return "neverallow " + pick.word("a b c") + " " + pick.word("a b c self") + " : k x;"
	case 7:
		return pick.transition()
	}
	return pick.rule("allow allow auditallow dontaudit")
}

// faulty picks a statement that has a fault, or may have one together with others.
func (pick picker) faulty() string {
	return pick.word("type allow+a+b:k+z; type+a; attribute+a; neverallow+*+*:k+w; require+type+z; allow+e+a:k+w; optional+{+type+y;+type+y;+} if+p+{+type+y;+} sid+o+u:m:c:s; sid+o+u:m:a:s; assert+o+noflow+a+b; range_transition+a+b:k+t-s; user+v+roles+{+object_r+}+level+s+range+s; type_transition+a+b:k+c; require+class+k+{+y+};")
}
