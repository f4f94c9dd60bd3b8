package linker_test

import (
	"maps"
	"slices"

	"accesscontrol/api"
	"accesscontrol/bitset"
	"accesscontrol/boolexp"
	"accesscontrol/level"
	"accesscontrol/linker"
	"accesscontrol/nameset"
	"accesscontrol/scope"
)

// The model follows the words of the chapter. It stops by a panic with a stop.

type stop struct {
	module int
	fault  api.Fault
}

// model is a policy in the making, and where the model stands.
type model struct {
	p      api.Policy
	module int
	pos    api.Pos
}

func (m *model) stop(code api.Errno, name string) {
	panic(stop{m.module, api.Fault{Code: code, Pos: m.pos, Name: name}})
}

func (m *model) expect(code api.Errno) {
	if code != api.OK {
		m.stop(code, "")
	}
}

// modelLink says what Link returns.
func modelLink(l []api.Module) (p api.Policy, module int, f api.Fault) {
	defer func() {
		if x := recover(); x != nil {
			s := x.(stop)
			p, module, f = api.Policy{}, s.module, s.fault
		}
	}()
	m := &model{}
	m.first(l)
	m.second(l)
	m.third(l)
	m.fourth(l)
	each := func(step func(api.Stmt)) {
		for i := range l {
			for _, s := range l[i].Stmts {
				m.module, m.pos = i, s.Pos
				step(s)
			}
		}
	}
	each(m.fifth)
	each(m.sixth)
	each(m.seventh)
	return m.p, -1, api.Fault{}
}

func (m *model) first(l []api.Module) {
	seen := map[string]bool{}
	for i, x := range l {
		if m.module = i; seen[x.Name] {
			m.stop(api.ErrTwice, x.Name)
		}
		seen[x.Name] = true
	}
}

func (m *model) second(l []api.Module) {
	for i, x := range l {
		m.module = i
		for _, s := range x.Stmts {
			if m.pos = s.Pos; s.Kind == api.StmtOptional {
				m.stop(api.ErrKind, "")
			}
			for _, inner := range slices.Concat(s.Then, s.Else) {
				may := inner.Kind == api.StmtTrans || inner.Kind == api.StmtRule && inner.Op <= api.RuleDontAudit
				if m.pos = inner.Pos; !may {
					m.stop(api.ErrKind, "")
				}
			}
		}
		if f := scope.Check(x); f != (api.Fault{}) {
			panic(stop{i, f})
		}
	}
}

func (m *model) third(l []api.Module) {
	m.p.Roles = []api.Role{{Name: "object_r"}}
	type symbol struct {
		kind int
		name string
	}
	declared, count := map[symbol]bool{{api.SymRole, "object_r"}: true}, map[int]int{api.SymRole: 1}
	limits := map[int]int{api.SymClass: 32, api.SymType: 256, api.SymAttribute: 64, api.SymRole: 32, api.SymUser: 32, api.SymBool: 16, api.SymSensitivity: 16, api.SymCategory: 64}
	for i, x := range l {
		for _, s := range x.Stmts {
			m.module, m.pos = i, s.Pos
			own, _ := scope.Block([]api.Stmt{s})
			own = slices.DeleteFunc(own, func(d api.Symbol) bool { return d.Required })
			for _, d := range own {
				space := d.Kind
				if space == api.SymAttribute {
					space = api.SymType
				}
				if declared[symbol{space, d.Name}] {
					m.stop(api.ErrTwice, d.Name)
				}
				declared[symbol{space, d.Name}] = true
			}
			if len(own) == 0 {
				continue
			}
			kind := own[0].Kind
			if count[kind]++; count[kind] > limits[kind] {
				m.stop(api.ErrLong, s.Name)
			}
			if len(own[0].Perms) < len(s.List) && kind == api.SymClass {
				m.stop(api.ErrTwice, s.Name)
			}
			m.add(kind, s)
		}
	}
}

// add adds a symbol to the lists.
func (m *model) add(kind int, s api.Stmt) {
	switch p := &m.p; kind {
	case api.SymClass:
		p.Classes = append(p.Classes, api.Class{Name: s.Name, Perms: s.List})
	case api.SymType:
		p.Types = append(p.Types, api.Type{Name: s.Name, Aliases: s.Aliases})
	case api.SymAttribute:
		p.Attrs = append(p.Attrs, api.Attr{Name: s.Name})
	case api.SymRole:
		p.Roles = append(p.Roles, api.Role{Name: s.Name})
	case api.SymUser:
		p.Users = append(p.Users, api.User{Name: s.Name})
	case api.SymBool:
		p.Bools = append(p.Bools, api.Bool{Name: s.Name, Value: s.Value})
	case api.SymSensitivity:
		p.Sens = append(p.Sens, s.Name)
	case api.SymCategory:
		p.Cats = append(p.Cats, s.Name)
	}
}

func (m *model) fourth(l []api.Module) {
	var all []api.Symbol
	for _, x := range l {
		symbols, _ := scope.Symbols(x)
		all = append(all, symbols...)
	}
	for i, x := range l {
		symbols, _ := scope.Symbols(x)
		for _, s := range scope.Missing(symbols, all) {
			m.module, m.pos = i, s.Pos
			m.stop(api.ErrRequire, s.Name)
		}
	}
}

func (m *model) env() api.Env { return api.Env{Types: m.p.Types, Attrs: m.p.Attrs} }

func (m *model) fifth(s api.Stmt) {
	if s.Kind != api.StmtType && s.Kind != api.StmtMember {
		return
	}
	n, _ := nameset.Type(s.Name, m.env())
	for i := range m.p.Attrs {
		if slices.Contains(s.List, m.p.Attrs[i].Name) {
			m.p.Attrs[i].Types = bitset.With(m.p.Attrs[i].Types, n)
		}
	}
}

func (m *model) types(n api.NameSet) api.Set {
	s, code := nameset.Types(n, m.env())
	m.expect(code)
	return s
}

func (m *model) sixth(s api.Stmt) {
	for i := range m.p.Roles {
		if s.Kind == api.StmtRole && m.p.Roles[i].Name == s.Name {
			m.p.Roles[i].Types = m.types(s.Source)
		}
	}
}

func (m *model) roleNames() []string {
	var l []string
	for _, r := range m.p.Roles {
		l = append(l, r.Name)
	}
	return l
}

func (m *model) userNames() []string {
	var l []string
	for _, u := range m.p.Users {
		l = append(l, u.Name)
	}
	return l
}

func (m *model) roles(n api.NameSet) api.Set {
	if slices.Contains(slices.Concat(n.Names, n.Except), "object_r") {
		m.stop(api.ErrKind, "")
	}
	s, code := nameset.Listed(n, m.roleNames())
	m.expect(code)
	return bitset.Minus(s, bitset.Of(0))
}

func (m *model) classes(s api.Stmt) []int {
	set, code := nameset.Classes(s.Class, m.p.Classes)
	m.expect(code)
	return bitset.List(set)
}

func (m *model) levels(r api.RangeText) api.Range {
	x, code := level.Range(r, m.p.Sens, m.p.Cats)
	m.expect(code)
	return x
}

func (m *model) seventh(s api.Stmt) {
	switch s.Kind {
	case api.StmtRule, api.StmtTrans:
		m.conditional(s, 0)
	case api.StmtIf:
		m.condition(s)
	case api.StmtRoleAllow, api.StmtRoleTrans, api.StmtUser:
		m.aboutRoles(s)
	case api.StmtRangeTrans:
		m.rangeTrans(s)
	case api.StmtConstrain, api.StmtValidate:
		m.constraint(s)
	case api.StmtSid, api.StmtFile:
		m.context(s)
	case api.StmtPermissive:
		for _, n := range bitset.List(m.types(s.Source)) {
			m.p.Types[n].Permissive = true
		}
	case api.StmtAssert:
		a := api.Assert{Name: s.Name, Kind: s.Op, Source: m.types(s.Source), Target: m.types(s.Target)}
		for _, before := range m.p.Asserts {
			if before.Name == s.Name {
				m.stop(api.ErrTwice, s.Name)
			}
		}
		if bitset.Count(a.Source)*bitset.Count(a.Target) > 0 {
			m.p.Asserts = append(m.p.Asserts, a)
		}
	}
}

func (m *model) aboutRoles(s api.Stmt) {
	switch s.Kind {
	case api.StmtRoleAllow:
		source, target := m.roles(s.Source), api.Set{}
		target = m.roles(s.Target)
		for n := range m.p.Roles {
			if bitset.Has(source, n) {
				m.p.Roles[n].Next = bitset.Union(m.p.Roles[n].Next, target)
			}
		}
	case api.StmtRoleTrans:
		r := api.RoleTrans{Roles: m.roles(s.Source)}
		r.Types = m.types(s.Target)
		if s.Result == "object_r" {
			m.stop(api.ErrKind, "")
		}
		r.Result = slices.Index(m.roleNames(), s.Result)
		for _, r.Class = range m.classes(s) {
			if bitset.Count(r.Roles)*bitset.Count(r.Types) > 0 {
				m.p.RoleTrans = append(m.p.RoleTrans, r)
			}
		}
	case api.StmtUser:
		u := api.User{Name: s.Name, Roles: m.roles(api.NameSet{Names: s.List})}
		var code api.Errno
		u.Default, code = level.Level(s.Level, m.p.Sens, m.p.Cats)
		m.expect(code)
		u.Range = m.levels(s.Range)
		if !level.Dominates(u.Default, u.Range.Low) || !level.Dominates(u.Range.High, u.Default) {
			m.stop(api.ErrLevel, "")
		}
		m.p.Users[slices.Index(m.userNames(), s.Name)] = u
	}
}

func (m *model) conditional(s api.Stmt, cond int) {
	source := m.types(s.Source)
	target := m.types(s.Target)
	if s.Kind == api.StmtTrans {
		result, _ := nameset.Type(s.Result, m.env())
		for _, class := range m.classes(s) {
			if bitset.Count(source)*bitset.Count(target) > 0 {
				m.p.Trans = append(m.p.Trans, api.Trans{Kind: s.Op, Source: source, Target: target, Class: class, Name: s.Text, Result: result, Cond: cond})
			}
		}
		return
	}
	for _, class := range m.classes(s) {
		perms, code := nameset.Perms(s.Perms, m.p.Classes[class])
		m.expect(code)
		targets := bitset.Count(target)
		if s.Target.Self {
			targets++
		}
		if bitset.Count(source)*targets > 0 && perms > 0 {
			m.p.Rules = append(m.p.Rules, api.Rule{Kind: s.Op, Source: source, Target: target, Self: s.Target.Self, Class: class, Perms: perms, Cond: cond})
		}
	}
}

func (m *model) condition(s api.Stmt) {
	c := m.numbers(s.Cond)
	n := slices.IndexFunc(m.p.Conds, func(e api.Expr) bool { return boolexp.Same(e, c) })
	if n < 0 {
		n = len(m.p.Conds)
		m.p.Conds = append(m.p.Conds, c)
	}
	for i, inner := range slices.Concat(s.Then, s.Else) {
		cond := n + 1
		if i >= len(s.Then) {
			cond = -cond
		}
		m.pos = inner.Pos
		m.conditional(inner, cond)
	}
}

func (m *model) numbers(e api.Expr) api.Expr {
	c := api.Expr{Op: e.Op}
	if e.Op == api.ExprName {
		c.A = slices.IndexFunc(m.p.Bools, func(b api.Bool) bool { return b.Name == e.Names[0] })
	}
	for _, kid := range e.Kids {
		c.Kids = append(c.Kids, m.numbers(kid))
	}
	return c
}

func (m *model) rangeTrans(s api.Stmt) {
	t := api.RangeTrans{Source: m.types(s.Source)}
	t.Target = m.types(s.Target)
	t.Range = m.levels(s.Range)
	for _, t.Class = range m.classes(s) {
		if bitset.Count(t.Source)*bitset.Count(t.Target) > 0 {
			m.p.Ranges = append(m.p.Ranges, t)
		}
	}
}

func (m *model) constraint(s api.Stmt) {
	e := m.members(s.Cond)
	if wrongSorts(e) {
		m.stop(api.ErrKind, "")
	}
	for _, class := range m.classes(s) {
		c := api.Constraint{Class: class, Validate: s.Kind == api.StmtValidate, Expr: e}
		if !c.Validate {
			var code api.Errno
			c.Perms, code = nameset.Perms(s.Perms, m.p.Classes[class])
			m.expect(code)
		}
		if c.Validate || c.Perms > 0 {
			m.p.Constraints = append(m.p.Constraints, c)
		}
	}
}

func (m *model) members(e api.Expr) api.Expr {
	c := e
	c.Names, c.Kids = nil, nil
	if e.Op == api.ExprIn {
		n := api.NameSet{Names: e.Names}
		switch sorts[e.A] {
		case 'u':
			c.Set, _ = nameset.Listed(n, m.userNames())
		case 'r':
			c.Set, _ = nameset.Listed(n, m.roleNames())
		case 't':
			if c.Set = m.types(n); c.Set == (api.Set{}) {
				c = compare(e.A, api.RelDiffer, e.A)
			}
		}
	}
	for _, kid := range e.Kids {
		c.Kids = append(c.Kids, m.members(kid))
	}
	return c
}

const sorts = "urtllurtllurtll"

func wrongSorts(e api.Expr) bool {
	switch e.Op {
	case api.ExprCompare:
		return sorts[e.A] != sorts[e.B] || sorts[e.A] != 'l' && e.Rel > api.RelDiffer
	case api.ExprIn:
		return sorts[e.A] == 'l'
	}
	return slices.ContainsFunc(e.Kids, wrongSorts)
}

func (m *model) context(s api.Stmt) {
	c, code := linker.Context(m.p, s.Context)
	m.expect(code)
	u, r := m.p.Users[c.User], m.p.Roles[c.Role]
	if c.Role != 0 && !(bitset.Has(u.Roles, c.Role) && bitset.Has(r.Types, c.Type) && level.Contains(u.Range, c.Range)) {
		m.stop(api.ErrContext, "")
	}
	if s.Kind == api.StmtFile {
		m.p.Files = append(m.p.Files, api.FileRule{Pattern: s.Text, Kind: s.Op, Context: c})
		return
	}
	names := map[string]bool{}
	for _, x := range m.p.Sids {
		names[x.Name] = true
	}
	if slices.Contains(slices.Collect(maps.Keys(names)), s.Name) {
		m.stop(api.ErrTwice, s.Name)
	}
	m.p.Sids = append(m.p.Sids, api.InitialSid{Name: s.Name, Context: c})
}
