package binary

import (
	"accesscontrol/api"
)

// magic is what an encoding begins with.
const magic = "ACPB"

// coder writes parts of a policy from where they are, or reads them to there. What is below describes the format for both, so that they agree.
type coder interface {
	// since reports whether the version of the encoding is this one, or a later one.
	since(version int) bool
	// length is the number of elements of a list, which a writer has.
	length(n int) int
	number(*int)
	signed(*int)
	vector(*uint32)
	categories(*uint64)
	boolean(*bool)
	text(*string)
	set(*api.Set)
	// operator is the Op of an expression at a level.
	operator(op *int, level int)
}

func policy(c coder, p *api.Policy) {
	list(c, &p.Classes, class)
	list(c, &p.Types, typeSymbol)
	list(c, &p.Attrs, attribute)
	list(c, &p.Roles, role)
	list(c, &p.Users, user)
	list(c, &p.Bools, boolSymbol)
	list(c, &p.Sens, coder.text)
	list(c, &p.Cats, coder.text)
	list(c, &p.Conds, expression)
	list(c, &p.Rules, rule)
	list(c, &p.Trans, transition)
	list(c, &p.RoleTrans, roleTransition)
	if c.since(secondVersion) {
		list(c, &p.Ranges, rangeTransition)
	}
	list(c, &p.Constraints, constraint)
	list(c, &p.Sids, initialSid)
	if c.since(thirdVersion) {
		list(c, &p.Files, fileRule)
		list(c, &p.Asserts, assertion)
	}
}

func list[E any](c coder, l *[]E, element func(coder, *E)) {
	elements(c, l, c.length(len(*l)), element)
}

// elements codes so many elements. The list of a reader grows by what is there: the number alone may be wrong.
func elements[E any](c coder, l *[]E, count int, element func(coder, *E)) {
	for i := range count {
		if i == len(*l) {
			var e E
			*l = append(*l, e)
		}
		element(c, &(*l)[i])
	}
}

func class(c coder, x *api.Class) {
	c.text(&x.Name)
	list(c, &x.Perms, coder.text)
}

func typeSymbol(c coder, x *api.Type) {
	c.text(&x.Name)
	list(c, &x.Aliases, coder.text)
	if c.since(secondVersion) {
		c.boolean(&x.Permissive)
	}
}

func attribute(c coder, x *api.Attr) {
	c.text(&x.Name)
	c.set(&x.Types)
}

func role(c coder, x *api.Role) {
	c.text(&x.Name)
	c.set(&x.Types)
	c.set(&x.Next)
}

func user(c coder, x *api.User) {
	c.text(&x.Name)
	c.set(&x.Roles)
	level(c, &x.Default)
	levels(c, &x.Range)
}

func boolSymbol(c coder, x *api.Bool) {
	c.text(&x.Name)
	c.boolean(&x.Value)
}

func level(c coder, x *api.Level) {
	c.number(&x.Sens)
	c.categories(&x.Cats)
}

func levels(c coder, x *api.Range) {
	level(c, &x.Low)
	level(c, &x.High)
}

func context(c coder, x *api.Context) {
	c.number(&x.User)
	c.number(&x.Role)
	c.number(&x.Type)
	levels(c, &x.Range)
}

func rule(c coder, x *api.Rule) {
	c.number(&x.Kind)
	c.set(&x.Source)
	c.set(&x.Target)
	c.boolean(&x.Self)
	c.number(&x.Class)
	c.vector(&x.Perms)
	c.signed(&x.Cond)
}

func transition(c coder, x *api.Trans) {
	c.number(&x.Kind)
	c.set(&x.Source)
	c.set(&x.Target)
	c.number(&x.Class)
	if c.since(secondVersion) {
		c.text(&x.Name)
	}
	c.number(&x.Result)
	c.signed(&x.Cond)
}

func roleTransition(c coder, x *api.RoleTrans) {
	c.set(&x.Roles)
	c.set(&x.Types)
	c.number(&x.Class)
	c.number(&x.Result)
}

func rangeTransition(c coder, x *api.RangeTrans) {
	c.set(&x.Source)
	c.set(&x.Target)
	c.number(&x.Class)
	levels(c, &x.Range)
}

func constraint(c coder, x *api.Constraint) {
	c.number(&x.Class)
	c.vector(&x.Perms)
	c.boolean(&x.Validate)
	expression(c, &x.Expr)
}

func initialSid(c coder, x *api.InitialSid) {
	c.text(&x.Name)
	context(c, &x.Context)
}

func fileRule(c coder, x *api.FileRule) {
	c.text(&x.Pattern)
	c.number(&x.Kind)
	context(c, &x.Context)
}

func assertion(c coder, x *api.Assert) {
	c.text(&x.Name)
	c.number(&x.Kind)
	c.set(&x.Source)
	c.set(&x.Target)
}
