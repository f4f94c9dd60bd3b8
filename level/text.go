package level

import (
	"strings"

	"accesscontrol/api"
)

const (
	rangeMark = "-" // between two levels
	levelMark = ":" // between a sensitivity and its categories
	listMark  = "," // between two spans
	spanMark  = "." // between the first and the last category of a span
)

// Text returns a range as a text, with the names of sensitivities and categories.
func Text(r api.Range, sens, cats []string) (string, api.Errno) {
	t, code := Source(r, sens, cats)
	if code != api.OK {
		return "", code
	}
	if isMissing(t.High) {
		return levelText(t.Low), api.OK
	}
	return levelText(t.Low) + rangeMark + levelText(t.High), api.OK
}

// Parse returns the range that a text denotes.
func Parse(s string, sens, cats []string) (api.Range, api.Errno) {
	if !proper(sens, cats) {
		return api.Range{}, api.ErrArg
	}
	t, ok := readRange(s)
	if !ok {
		return api.Range{}, api.ErrSyntax
	}
	return Range(t, sens, cats)
}

func levelText(l api.LevelText) string {
	var b strings.Builder
	b.WriteString(l.Sens)
	mark := levelMark
	for _, s := range l.Cats {
		b.WriteString(mark)
		b.WriteString(s.From)
		if s.To != "" {
			b.WriteString(spanMark)
			b.WriteString(s.To)
		}
		mark = listMark
	}
	return b.String()
}

// readRange, readLevel and readSpan report whether a text has the form of what they read. A mark that stands too often becomes a part of a name, and is refused there.
func readRange(s string) (api.RangeText, bool) {
	first, second, two := strings.Cut(s, rangeMark)
	low, ok := readLevel(first)
	if !ok {
		return api.RangeText{}, false
	}
	if !two {
		return api.RangeText{Low: low}, true
	}
	high, ok := readLevel(second)
	return api.RangeText{Low: low, High: high}, ok
}

func readLevel(s string) (api.LevelText, bool) {
	name, list, more := strings.Cut(s, levelMark)
	if !isName(name) {
		return api.LevelText{}, false
	}
	l := api.LevelText{Sens: name}
	for more {
		var first string
		first, list, more = strings.Cut(list, listMark)
		span, ok := readSpan(first)
		if !ok {
			return api.LevelText{}, false
		}
		l.Cats = append(l.Cats, span)
	}
	return l, true
}

func readSpan(s string) (api.Span, bool) {
	from, to, two := strings.Cut(s, spanMark)
	return api.Span{From: from, To: to}, isName(from) && (!two || isName(to))
}

// isName reports whether s is a sequence of letters, digits and underscores, however long.
func isName(s string) bool {
	for _, c := range []byte(s) {
		if !isWordByte(c) {
			return false
		}
	}
	return s != ""
}

func isWordByte(c byte) bool {
	return 'a' <= c && c <= 'z' || 'A' <= c && c <= 'Z' || '0' <= c && c <= '9' || c == '_'
}
