package linker

import (
	"accesscontrol/api"
	"accesscontrol/symbols"
)

// space is a name space: the names in it.
type space map[string]bool

// add adds names in order, up to one that cannot be added, and returns why it cannot.
func (s space) add(names ...string) api.Errno {
	for _, name := range names {
		switch {
		case !isIdentifier(name):
			return api.ErrName
		case s[name]:
			return api.ErrTwice
		}
		s[name] = true
	}
	return api.OK
}

// isIdentifier asks a table of symbols, because tables have identifiers alone.
func isIdentifier(name string) bool {
	_, code := symbols.New(1).Add(name)
	return code == api.OK
}

// permsError returns the error of the permissions of a class. They are a name space of their own.
func permsError(perms []string) api.Errno {
	switch {
	case len(perms) > api.MaxPerms:
		return api.ErrLong
	case len(perms) == 0:
		return api.ErrArg
	}
	return space{}.add(perms...)
}
