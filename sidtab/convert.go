package sidtab

import (
	"slices"

	"accesscontrol/api"
	"accesscontrol/context"
)

// Convert returns a table with the same identifiers for policy b, and how many are not mapped in it. What is needed of policy a, the table has kept.
func (t *Table) Convert(a, b api.Policy) (*Table, int, api.Errno) {
	switch {
	case !t.made():
		return nil, 0, api.ErrNil
	case !hasTable(b):
		return nil, 0, api.ErrContext
	}
	c := newTable(b)
	lost := c.adopt(t, b)
	for _, s := range b.Sids {
		if !t.hasName(s.Name) {
			c.add(initialEntry(s.Name, s.Context))
		}
	}
	if len(c.entries) > api.MaxSids {
		return nil, 0, api.ErrFull
	}
	return c, lost, api.OK
}

// adopt adds the identifiers of another table to one without any, whose policy is b, and returns how many are not mapped. It takes over only the homes of those.
func (t *Table) adopt(from *Table, b api.Policy) int {
	lost := 0
	homes := map[int]int{} // the numbers in t of homes of the other table
	for _, e := range from.entries {
		c, ok := from.contextIn(b, e)
		if ok {
			e.home, e.context = ownPolicy, c
			t.add(e)
			continue
		}
		if _, found := homes[e.home]; !found {
			homes[e.home] = len(t.homes)
			t.homes = append(t.homes, kept(from.homes[e.home]))
		}
		e.home = homes[e.home]
		t.add(e)
		lost++
	}
	return lost
}

// contextIn returns the context that an identifier has in policy b; false if it is not mapped there.
func (t *Table) contextIn(b api.Policy, e entry) (api.Context, bool) {
	if e.initial {
		if c, ok := context.Initial(b, e.name); ok {
			return c, true
		}
	}
	c, code := context.Move(t.homes[e.home], b, e.context)
	return c, code == api.OK
}

// hasName reports whether an identifier has a name.
func (t *Table) hasName(name string) bool {
	return slices.ContainsFunc(t.entries, func(e entry) bool { return e.initial && e.name == name })
}
