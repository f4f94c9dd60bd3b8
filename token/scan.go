package token

import (
	"accesscontrol/api"
)

const (
	endOfSource rune = -1
	lineFeed    rune = '\n'
	quote       rune = '"'
	maxDigits        = 9
)

// scanner is the part of a source that has not been read yet: from the byte with the index at, which stands at pos.
type scanner struct {
	src string
	at  int
	pos api.Pos
}

// Scan returns the tokens of a source, with the token TokEnd at the end.
func Scan(src string) ([]api.Token, api.Fault) {
	if len(src) > api.MaxSource {
		return nil, api.Fault{Code: api.ErrLong}
	}
	s := scanner{src: src, pos: firstPos()}
	var l []api.Token
	for {
		t, f := s.next()
		if f.Code != api.OK {
			return nil, f
		}
		l = append(l, t)
		if t.Kind == api.TokEnd {
			return l, api.Fault{}
		}
	}
}

// next reads up to the end of the next token. Each label is a state, in which the next byte decides what follows.
func (s *scanner) next() (api.Token, api.Fault) {
	var begin scanner

between:
	begin = *s
	switch c := s.peek(); {
	case c == endOfSource:
		return s.token(api.TokEnd, begin)
	case isBlank(c):
		s.step()
		goto between
	case c == '#':
		goto comment
	case isLetter(c):
		goto name
	case isDigit(c):
		goto number
	case c == quote:
		s.step()
		goto quoted
	default:
		return s.mark(begin)
	}

comment:
	if c := s.peek(); c == lineFeed || c == endOfSource {
		goto between
	}
	s.step()
	goto comment

name:
	if c := s.peek(); isLetter(c) || isDigit(c) {
		s.step()
		goto name
	}
	return s.token(api.TokName, begin)

number:
	if isDigit(s.peek()) {
		s.step()
		goto number
	}
	return s.token(api.TokNumber, begin)

quoted:
	switch c := s.peek(); {
	case c == endOfSource:
		return api.Token{}, api.Fault{Code: api.ErrShort, Pos: begin.pos}
	case c == quote:
		s.step()
		return s.token(api.TokString, begin)
	case !isPrintable(c):
		return api.Token{}, api.Fault{Code: api.ErrSyntax, Pos: s.pos}
	}
	s.step()
	goto quoted
}

// mark reads the longest mark that begins at the next byte.
func (s *scanner) mark(begin scanner) (api.Token, api.Fault) {
	for range markLength(s.src[s.at:]) {
		s.step()
	}
	return s.token(api.TokMark, begin)
}

// peek returns the next byte as a rune, or endOfSource.
func (s *scanner) peek() rune {
	if s.at == len(s.src) {
		return endOfSource
	}
	return rune(s.src[s.at])
}

func (s *scanner) step() {
	s.pos = behind(s.pos, s.peek())
	s.at++
}

// token returns the token that was read since the state begin, or its fault.
func (s *scanner) token(kind int, begin scanner) (api.Token, api.Fault) {
	text := s.src[begin.at:s.at]
	if kind == api.TokString {
		text = text[1 : len(text)-1]
	}
	if code := tokenError(kind, text); code != api.OK {
		return api.Token{}, api.Fault{Code: code, Pos: begin.pos}
	}
	return api.Token{Kind: kind, Text: text, Pos: begin.pos}, api.Fault{}
}

// tokenError returns the error of a text that has the right characters for its kind. A mark without a text is a byte with which no token begins.
func tokenError(kind int, text string) api.Errno {
	switch {
	case kind == api.TokName && len(text) > api.MaxName:
		return api.ErrName
	case kind == api.TokNumber && len(text) > maxDigits:
		return api.ErrRange
	case kind == api.TokNumber && len(text) > 1 && rune(text[0]) == '0':
		return api.ErrSyntax
	case kind == api.TokString && len(text) > api.MaxPath:
		return api.ErrLong
	case kind == api.TokMark && text == "":
		return api.ErrSyntax
	}
	return api.OK
}

// markLength returns the length of the longest mark at the beginning of a source that is not empty, 0 if there is none.
func markLength(src string) int {
	switch src[:min(2, len(src))] {
	case "==", "!=", "&&", "||":
		return 2
	}
	switch rune(src[0]) {
	case '{', '}', '(', ')', ';', ':', ',', '.', '-', '~', '*', '!', '^':
		return 1
	}
	return 0
}

func isBlank(c rune) bool { return c == ' ' || c == '\t' || c == lineFeed }

func isLetter(c rune) bool { return 'a' <= c && c <= 'z' || 'A' <= c && c <= 'Z' || c == '_' }

func isDigit(c rune) bool { return '0' <= c && c <= '9' }

func isPrintable(c rune) bool { return ' ' <= c && c <= '~' }

func firstPos() api.Pos { return api.Pos{Line: 1, Col: 1} }

// behind returns the position of the byte that follows the byte c at the position p.
func behind(p api.Pos, c rune) api.Pos {
	if c == lineFeed {
		return api.Pos{Line: p.Line + 1, Col: 1}
	}
	return api.Pos{Line: p.Line, Col: p.Col + 1}
}
