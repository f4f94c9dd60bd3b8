package auditlog

import (
	"math"
	"slices"

	"accesscontrol/api"
	"accesscontrol/token"
)

const (
	maxNumber  = 1 << 50 // of Time and Seq
	maxCount   = math.MaxInt32
	maxContext = 8192 // bytes of Source and Target
)

// Check returns the error of a record.
func Check(r api.Record) api.Errno {
	switch {
	case !within(r.Time, 0, maxNumber), !within(r.Seq, 0, maxNumber), !within(r.Count, 1, maxCount):
		return api.ErrRange
	case !isWord(r.Source), !isWord(r.Target):
		return api.ErrArg
	case !token.Identifier(r.Class):
		return api.ErrName
	case len(r.Perms) == 0:
		return api.ErrArg
	case len(r.Perms) > api.MaxPerms:
		return api.ErrLong
	}
	return checkPerms(r.Perms)
}

// checkPerms returns the error of the first permission that has one.
func checkPerms(l []string) api.Errno {
	for i, name := range l {
		switch {
		case !token.Identifier(name):
			return api.ErrName
		case slices.Contains(l[:i], name):
			return api.ErrTwice
		}
	}
	return api.OK
}

// Same reports whether two records are equal apart from Time, Seq and Count.
func Same(a, b api.Record) bool {
	return a.Granted == b.Granted && a.Permissive == b.Permissive &&
		a.Source == b.Source && a.Target == b.Target && a.Class == b.Class && slices.Equal(a.Perms, b.Perms)
}

// within reports whether a number is from least to greatest.
func within(n, least, greatest int) bool { return least <= n && n <= greatest }

// isWord reports whether s can stand for a context: it has neither spaces nor bytes that are not printed.
func isWord(s string) bool {
	if !within(len(s), 1, maxContext) {
		return false
	}
	for i := range len(s) {
		if !within(int(s[i]), '!', '~') {
			return false
		}
	}
	return true
}
