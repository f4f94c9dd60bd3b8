package context

import (
	"slices"
	"strings"

	"accesscontrol/api"
	"accesscontrol/level"
)

const (
	partMark = ':' // between the parts of a text
	marks    = 3   // how many of them separate parts; further ones belong to the range
)

// Text returns a context as a text: user:role:type:range.
func Text(p api.Policy, c api.Context) (string, api.Errno) {
	if code := Check(p, c); code != api.OK {
		return "", code
	}
	levels, code := level.Text(c.Range, p.Sens, p.Cats)
	if code != api.OK {
		return "", code
	}
	parts := []string{p.Users[c.User].Name, p.Roles[c.Role].Name, p.Types[c.Type].Name, levels}
	return strings.Join(parts, string(partMark)), api.OK
}

// Parse returns the valid context that a text denotes.
func Parse(p api.Policy, s string) (api.Context, api.Errno) {
	parts, ok := split(s)
	if !ok {
		return api.Context{}, api.ErrSyntax
	}
	c, ok := named(&p, parts[0], parts[1], parts[2])
	if !ok {
		return api.Context{}, api.ErrNone
	}
	levels, code := level.Parse(parts[marks], p.Sens, p.Cats)
	if code != api.OK {
		return api.Context{}, code
	}
	c.Range = levels
	if code := Check(p, c); code != api.OK {
		return api.Context{}, code
	}
	return c, api.OK
}

// split returns what the first marks separate; false if there are too few of them.
func split(s string) ([marks + 1]string, bool) {
	var parts [marks + 1]string
	n, start := 0, 0
	for i, c := range s {
		if c != partMark {
			continue
		}
		parts[n] = s[start:i]
		n, start = n+1, i+1
		if n == marks {
			break
		}
	}
	parts[n] = s[start:]
	return parts, n == marks
}

// named returns the context with the names of a user, a role and a type, which may be an alias, without a range; false if one of them does not exist.
func named(p *api.Policy, user, role, kind string) (api.Context, bool) {
	c := api.Context{
		User: slices.IndexFunc(p.Users, func(u api.User) bool { return u.Name == user }),
		Role: slices.IndexFunc(p.Roles, func(r api.Role) bool { return r.Name == role }),
		Type: slices.IndexFunc(p.Types, func(t api.Type) bool { return t.Name == kind || slices.Contains(t.Aliases, kind) }),
	}
	return c, min(c.User, c.Role, c.Type) >= 0
}
