// Package token is layer 2: divides a source into tokens. See shared/doc/02-token.md.
package token

import (
	"slices"
	"strings"

	"accesscontrol/api"
)

// Keyword reports whether a name is reserved.
func Keyword(s string) bool {
	switch s {
	case "module", "class", "type", "alias", "typeattribute", "attribute", "role", "types", "roleallow",
		"role_transition", "user", "roles", "level", "range", "bool", "true", "false", "sensitivity", "category",
		"allow", "auditallow", "dontaudit", "neverallow", "type_transition", "type_change", "type_member",
		"range_transition", "constrain", "validatetrans", "if", "else", "optional", "require", "sid", "filecon",
		"permissive", "assert", "self", "in":
		return true
	}
	return false
}

// Identifier reports whether s is an identifier: a name that is not reserved.
func Identifier(s string) bool {
	return Check(api.Token{Kind: api.TokName, Text: s}) && !Keyword(s)
}

// Check reports whether a token is one that Scan can return, apart from its position.
func Check(t api.Token) bool {
	s := scanner{src: spelling(t)}
	first, f := s.next()
	return f.Code == api.OK && sameToken(first, t)
}

// Text returns a source with these tokens (up to the first TokEnd): one space between two tokens.
func Text(l []api.Token) (string, api.Errno) {
	l = beforeEnd(l)
	for _, t := range l {
		if !Check(t) {
			return "", api.ErrArg
		}
	}
	var b strings.Builder
	for i, t := range l {
		if i > 0 {
			b.WriteByte(' ')
		}
		b.WriteString(spelling(t))
		if b.Len() > api.MaxSource {
			return "", api.ErrLong
		}
	}
	return b.String(), api.OK
}

// Same reports whether two lists have the same tokens, apart from their positions.
func Same(a, b []api.Token) bool {
	return slices.EqualFunc(a, b, sameToken)
}

// Locate returns the position of the byte with the index i.
func Locate(src string, i int) api.Pos {
	if i < 0 || i > len(src) {
		return api.Pos{}
	}
	p := firstPos()
	for n := range i {
		p = behind(p, rune(src[n]))
	}
	return p
}

// spelling returns how a token stands in a source.
func spelling(t api.Token) string {
	if t.Kind == api.TokString {
		return string(quote) + t.Text + string(quote)
	}
	return t.Text
}

func sameToken(a, b api.Token) bool { return a.Kind == b.Kind && a.Text == b.Text }

func beforeEnd(l []api.Token) []api.Token {
	end := slices.IndexFunc(l, func(t api.Token) bool { return t.Kind == api.TokEnd })
	if end < 0 {
		return l
	}
	return l[:end]
}
