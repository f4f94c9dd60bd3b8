package context

import (
	"slices"

	"accesscontrol/api"
)

// Move returns the context of policy b with the names that a context has in policy a; ErrContext if there is none that is valid.
func Move(a, b api.Policy, c api.Context) (api.Context, api.Errno) {
	if code := Check(a, c); code != api.OK {
		return api.Context{}, code
	}
	moved, ok := named(&b, a.Users[c.User].Name, a.Roles[c.Role].Name, a.Types[c.Type].Name)
	low, hasLow := moveLevel(&a, &b, c.Range.Low)
	high, hasHigh := moveLevel(&a, &b, c.Range.High)
	moved.Range = api.Range{Low: low, High: high}
	if !ok || !hasLow || !hasHigh || Check(b, moved) != api.OK {
		return api.Context{}, api.ErrContext
	}
	return moved, api.OK
}

// moveLevel returns the level of policy b with the names that a valid level has in policy a; false if b does not have one of them. Categories are moved one by one, because b may number them in another order.
func moveLevel(a, b *api.Policy, l api.Level) (api.Level, bool) {
	moved := api.Level{Sens: slices.Index(b.Sens, a.Sens[l.Sens])}
	if moved.Sens < 0 {
		return api.Level{}, false
	}
	for n, name := range a.Cats {
		if l.Cats>>n&1 == 0 {
			continue
		}
		to := slices.Index(b.Cats, name)
		if to < 0 {
			return api.Level{}, false
		}
		moved.Cats |= 1 << to
	}
	return moved, true
}
