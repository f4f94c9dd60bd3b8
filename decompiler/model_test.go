package decompiler_test

import (
	"strings"

	"accesscontrol/api"
)

// model writes the source of a policy as the chapter describes its statements.
type model struct {
	p api.Policy
	b strings.Builder
}

func modelSymbols(p api.Policy) string {
	m := &model{p: p}
	m.symbols()
	return m.b.String()
}

func modelModule(p api.Policy, name string) string {
	m := &model{p: p}
	m.line("module ", name, " 1;")
	m.symbols()
	m.roleAllows()
	for _, e := range p.Conds {
		m.line("if ", m.condition(e), " { ", m.empty(), " }")
	}
	for n, r := range p.Rules {
		m.conditional(r.Cond, m.rule(n))
	}
	for _, x := range p.Trans {
		m.conditional(x.Cond, m.transition(x))
	}
	m.otherTransitions()
	m.constraints()
	m.rest()
	return m.b.String()
}

func (m *model) line(parts ...string) { m.b.WriteString(strings.Join(parts, "") + "\n") }

// numbers returns the numbers in a set.
func numbers(s api.Set) []int {
	var l []int
	for n := range 256 {
		if s[n/64]>>(n%64)&1 == 1 {
			l = append(l, n)
		}
	}
	return l
}

func (m *model) types(s api.Set) string {
	text := "{ "
	for _, n := range numbers(s) {
		text += m.p.Types[n].Name + " "
	}
	return text + "}"
}

func (m *model) roles(s api.Set) string {
	text := "{ "
	for _, n := range numbers(s) {
		text += m.p.Roles[n].Name + " "
	}
	return text + "}"
}

func (m *model) perms(class int, v uint32) string {
	text := "{ "
	for n, name := range m.p.Classes[class].Perms {
		if v>>n&1 == 1 {
			text += name + " "
		}
	}
	return text + "}"
}

func (m *model) level(l api.Level) string {
	text, mark := m.p.Sens[l.Sens], ":"
	for n := 0; n < 64; n++ {
		if l.Cats>>n&1 == 0 {
			continue
		}
		first := n
		for n+1 < 64 && l.Cats>>(n+1)&1 == 1 {
			n++
		}
		text += mark + m.p.Cats[first]
		if n > first {
			text += "." + m.p.Cats[n]
		}
		mark = ","
	}
	return text
}

func (m *model) levels(r api.Range) string {
	if r.Low == r.High {
		return m.level(r.Low)
	}
	return m.level(r.Low) + "-" + m.level(r.High)
}

func (m *model) context(c api.Context) string {
	return m.p.Users[c.User].Name + ":" + m.p.Roles[c.Role].Name + ":" + m.p.Types[c.Type].Name + ":" + m.levels(c.Range)
}

func (m *model) condition(e api.Expr) string {
	switch e.Op {
	case api.ExprName:
		return m.p.Bools[e.A].Name
	case api.ExprNot:
		return "!" + m.condition(e.Kids[0])
	}
	mark := map[int]string{api.ExprAnd: "&&", api.ExprOr: "||", api.ExprXor: "^", api.ExprSame: "==", api.ExprDiffer: "!="}[e.Op]
	return "(" + m.condition(e.Kids[0]) + mark + m.condition(e.Kids[1]) + ")"
}

func attribute(n int) string {
	return "urtlh"[n%5:n%5+1] + "123"[n/5:n/5+1]
}

func (m *model) expression(e api.Expr) string {
	switch e.Op {
	case api.ExprCompare:
		return "(" + attribute(e.A) + " " + []string{"==", "!=", "dom", "domby", "incomp"}[e.Rel] + " " + attribute(e.B) + ")"
	case api.ExprIn:
		text := "(" + attribute(e.A) + " in { "
		for _, n := range numbers(e.Set) {
			switch e.A % 5 {
			case 0:
				text += m.p.Users[n].Name + " "
			case 1:
				text += m.p.Roles[n].Name + " "
			default:
				text += m.p.Types[n].Name + " "
			}
		}
		return text + "})"
	case api.ExprNot:
		return "!" + m.expression(e.Kids[0])
	}
	return "(" + m.expression(e.Kids[0]) + map[int]string{api.ExprAnd: " && ", api.ExprOr: " || "}[e.Op] + m.expression(e.Kids[1]) + ")"
}

func (m *model) symbols() {
	for _, c := range m.p.Classes {
		m.line("class ", c.Name, " { ", strings.Join(c.Perms, " "), " };")
	}
	for _, a := range m.p.Attrs {
		m.line("attribute ", a.Name, ";")
	}
	for n, x := range m.p.Types {
		text := "type " + x.Name
		if len(x.Aliases) > 0 {
			text += " alias { " + strings.Join(x.Aliases, " ") + " }"
		}
		for _, a := range m.p.Attrs {
			if a.Types[n/64]>>(n%64)&1 == 1 {
				text += ", " + a.Name
			}
		}
		m.line(text, ";")
	}
	for _, name := range m.p.Sens {
		m.line("sensitivity ", name, ";")
	}
	for _, name := range m.p.Cats {
		m.line("category ", name, ";")
	}
	for _, b := range m.p.Bools {
		m.line("bool ", b.Name, map[bool]string{true: " true;", false: " false;"}[b.Value])
	}
	for _, r := range m.p.Roles[1:] {
		if r.Types == (api.Set{}) {
			m.line("role ", r.Name, ";")
		} else {
			m.line("role ", r.Name, " types ", m.types(r.Types), ";")
		}
	}
	for _, u := range m.p.Users {
		m.line("user ", u.Name, " roles ", m.roles(u.Roles), " level ", m.level(u.Default), " range ", m.levels(u.Range), ";")
	}
}

func (m *model) roleAllows() {
	for _, r := range m.p.Roles[1:] {
		if r.Next != (api.Set{}) {
			m.line("roleallow ", r.Name, " ", m.roles(r.Next), ";")
		}
	}
}

func (m *model) empty() string {
	a, c := m.p.Types[0].Name, m.p.Classes[0]
	return "allow { " + a + " - " + a + " } " + a + " : " + c.Name + " " + c.Perms[0] + ";"
}

func (m *model) conditional(cond int, text string) {
	switch {
	case cond > 0:
		text = "if " + m.condition(m.p.Conds[cond-1]) + " { " + text + " }"
	case cond < 0:
		text = "if " + m.condition(m.p.Conds[-cond-1]) + " { " + m.empty() + " } else { " + text + " }"
	}
	m.line(text)
}

func (m *model) rule(n int) string {
	r := m.p.Rules[n]
	target := m.types(r.Target)
	if r.Self {
		target = target[:len(target)-1] + "self }"
	}
	return []string{"allow ", "auditallow ", "dontaudit ", "neverallow "}[r.Kind-1] + m.types(r.Source) + " " + target + " : " + m.p.Classes[r.Class].Name + " " + m.perms(r.Class, r.Perms) + ";"
}

func (m *model) transition(x api.Trans) string {
	text := []string{"type_transition ", "type_change ", "type_member "}[x.Kind-1] + m.types(x.Source) + " " + m.types(x.Target) + " : " + m.p.Classes[x.Class].Name + " " + m.p.Types[x.Result].Name
	if x.Name != "" {
		text += " \"" + x.Name + "\""
	}
	return text + ";"
}

func (m *model) otherTransitions() {
	for _, x := range m.p.RoleTrans {
		m.line("role_transition ", m.roles(x.Roles), " ", m.types(x.Types), " : ", m.p.Classes[x.Class].Name, " ", m.p.Roles[x.Result].Name, ";")
	}
	for _, x := range m.p.Ranges {
		m.line("range_transition ", m.types(x.Source), " ", m.types(x.Target), " : ", m.p.Classes[x.Class].Name, " ", m.levels(x.Range), ";")
	}
}

func (m *model) constraints() {
	for _, c := range m.p.Constraints {
		if c.Validate {
			m.line("validatetrans ", m.p.Classes[c.Class].Name, " ", m.expression(c.Expr), ";")
		} else {
			m.line("constrain ", m.p.Classes[c.Class].Name, " ", m.perms(c.Class, c.Perms), " ", m.expression(c.Expr), ";")
		}
	}
}

func (m *model) rest() {
	for _, s := range m.p.Sids {
		m.line("sid ", s.Name, " ", m.context(s.Context), ";")
	}
	for _, f := range m.p.Files {
		m.line("filecon \"", f.Pattern, "\" ", []string{"any", "regular", "directory", "link", "socket"}[f.Kind], " ", m.context(f.Context), ";")
	}
	var permissive api.Set
	for n, x := range m.p.Types {
		if x.Permissive {
			permissive[n/64] |= 1 << (n % 64)
		}
	}
	if permissive != (api.Set{}) {
		m.line("permissive ", m.types(permissive), ";")
	}
	for _, a := range m.p.Asserts {
		m.line("assert ", a.Name, []string{" noflow ", " nodomain ", " separate "}[a.Kind-1], m.types(a.Source), " ", m.types(a.Target), ";")
	}
}
