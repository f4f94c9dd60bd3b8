package token_test

import (
	"slices"
	"strings"
	"testing"

	"accesscontrol/api"
	"accesscontrol/token"
)

func tok(kind int, text string, line, col int) api.Token {
	return api.Token{Kind: kind, Text: text, Pos: api.Pos{Line: line, Col: col}}
}

func name(text string, line, col int) api.Token   { return tok(api.TokName, text, line, col) }
func number(text string, line, col int) api.Token { return tok(api.TokNumber, text, line, col) }
func str(text string, line, col int) api.Token    { return tok(api.TokString, text, line, col) }
func mark(text string, line, col int) api.Token   { return tok(api.TokMark, text, line, col) }
func end(line, col int) api.Token                 { return tok(api.TokEnd, "", line, col) }

func fault(code api.Errno, line, col int) api.Fault {
	return api.Fault{Code: code, Pos: api.Pos{Line: line, Col: col}}
}

func checkTokens(t *testing.T, src string, want ...api.Token) {
	t.Helper()
	if got, f := token.Scan(src); f != (api.Fault{}) || !slices.Equal(got, want) {
		t.Errorf("Scan(%.80q): got %v, %v, want %v", src, got, f, want)
	}
}

func checkFault(t *testing.T, src string, want api.Fault) {
	t.Helper()
	if got, f := token.Scan(src); f != want || len(got) != 0 {
		t.Errorf("Scan(%.80q): got %v, %v, want %v", src, got, f, want)
	}
}

// allMarks are the marks of the document.
func allMarks() []string {
	return strings.Fields("{ } ( ) ; : , . - ~ * ! == != && || ^")
}

// P2.1: blanks and comments, and the end of the source.
func TestScanBlanks(t *testing.T) {
	checkTokens(t, "", end(1, 1))
	checkTokens(t, " ", end(1, 2))
	checkTokens(t, "\t\t", end(1, 3))
	checkTokens(t, "\n", end(2, 1))
	checkTokens(t, "\n\n  \n\t", end(4, 2))
	checkTokens(t, "#", end(1, 2))
	checkTokens(t, "#a;\"", end(1, 5))
	checkTokens(t, "#\n", end(2, 1))
	checkTokens(t, "##a\n#b\n", end(3, 1))
	checkTokens(t, "# a \n b", name("b", 2, 2), end(2, 3))
	checkTokens(t, "a#b\nc #\n", name("a", 1, 1), name("c", 2, 1), end(3, 1))
	checkTokens(t, "1#2", number("1", 1, 1), end(1, 4))
	checkTokens(t, "!#=\n!=", mark("!", 1, 1), mark("!=", 2, 1), end(2, 3))
	checkFault(t, "=#\n=", fault(api.ErrSyntax, 1, 1))
}

// P2.1: each byte in front of, between and behind tokens.
func TestScanBytes(t *testing.T) {
	for b := range 256 {
		s := string([]byte{byte(b)})
		switch {
		case b == ' ' || b == '\t':
			checkTokens(t, s, end(1, 2))
		case b == '\n':
			checkTokens(t, s, end(2, 1))
		case b == '#':
			checkTokens(t, s, end(1, 2))
		case b == '_' || b >= 'a' && b <= 'z' || b >= 'A' && b <= 'Z':
			checkTokens(t, s, name(s, 1, 1), end(1, 2))
			checkTokens(t, "a"+s, name("a"+s, 1, 1), end(1, 3))
		case b >= '0' && b <= '9':
			checkTokens(t, s, number(s, 1, 1), end(1, 2))
			checkTokens(t, "a"+s, name("a"+s, 1, 1), end(1, 3))
		case b == '"':
			checkFault(t, "a "+s, fault(api.ErrShort, 1, 3))
		case slices.Contains(allMarks(), s):
			checkTokens(t, s, mark(s, 1, 1), end(1, 2))
			checkTokens(t, "a"+s, name("a", 1, 1), mark(s, 1, 2), end(1, 3))
		default:
			checkFault(t, s, fault(api.ErrSyntax, 1, 1))
			checkFault(t, "a;\n b"+s+"c", fault(api.ErrSyntax, 2, 3))
		}
	}
}

// P2.1: each byte in a comment.
func TestScanBytesInComment(t *testing.T) {
	for b := range 256 {
		if src := "#" + string([]byte{byte(b)}) + "\na"; b != '\n' {
			checkTokens(t, src, name("a", 2, 1), end(2, 2))
		}
	}
}

// P2.1: each byte in a string.
func TestScanBytesInString(t *testing.T) {
	for b := range 256 {
		s := string([]byte{byte(b)})
		switch src := "\n a\"x" + s + "y\""; {
		case b == '"':
			checkFault(t, src, fault(api.ErrShort, 2, 7))
			checkTokens(t, "\n a\"x"+s+"y", name("a", 2, 2), str("x", 2, 3), name("y", 2, 6), end(2, 7))
		case b >= 32 && b <= 126:
			checkTokens(t, src, name("a", 2, 2), str("x"+s+"y", 2, 3), end(2, 8))
		default:
			checkFault(t, src, fault(api.ErrSyntax, 2, 5))
		}
	}
}

// P2.1: names, and their limit.
func TestScanNames(t *testing.T) {
	checkTokens(t, "allow a_t self;", name("allow", 1, 1), name("a_t", 1, 7), name("self", 1, 11), mark(";", 1, 15), end(1, 16))
	checkTokens(t, "_ A9_z Zz09", name("_", 1, 1), name("A9_z", 1, 3), name("Zz09", 1, 8), end(1, 12))
	long := strings.Repeat("n", api.MaxName)
	checkTokens(t, long, name(long, 1, 1), end(1, 33))
	checkTokens(t, long+"-", name(long, 1, 1), mark("-", 1, 33), end(1, 34))
	checkFault(t, long+"n", fault(api.ErrName, 1, 1))
	checkFault(t, "\n "+long+"0;", fault(api.ErrName, 2, 2))
	checkFault(t, strings.Repeat("_", api.MaxSource), fault(api.ErrName, 1, 1))
}

// P2.1: numbers, and their limits.
func TestScanNumbers(t *testing.T) {
	checkTokens(t, "0", number("0", 1, 1), end(1, 2))
	checkTokens(t, "0 10 999999999", number("0", 1, 1), number("10", 1, 3), number("999999999", 1, 6), end(1, 15))
	checkTokens(t, "12ab", number("12", 1, 1), name("ab", 1, 3), end(1, 5))
	checkTokens(t, "0a0", number("0", 1, 1), name("a0", 1, 2), end(1, 4))
	checkTokens(t, "-1.5", mark("-", 1, 1), number("1", 1, 2), mark(".", 1, 3), number("5", 1, 4), end(1, 5))
	checkTokens(t, "123456789_1", number("123456789", 1, 1), name("_1", 1, 10), end(1, 12))
	checkFault(t, "1234567890", fault(api.ErrRange, 1, 1))
	checkFault(t, "0000000000", fault(api.ErrRange, 1, 1))
	checkFault(t, "0123456789x", fault(api.ErrRange, 1, 1))
	checkFault(t, "000000000", fault(api.ErrSyntax, 1, 1))
	checkFault(t, "007", fault(api.ErrSyntax, 1, 1))
	checkFault(t, "00", fault(api.ErrSyntax, 1, 1))
	checkFault(t, "a\n\n; 01", fault(api.ErrSyntax, 3, 3))
	checkFault(t, "a\n\n; 10000000000", fault(api.ErrRange, 3, 3))
}

// P2.1: marks, the longest one first.
func TestScanMarks(t *testing.T) {
	for _, m := range allMarks() {
		checkTokens(t, m, mark(m, 1, 1), end(1, 1+len(m)))
		checkTokens(t, "x"+m+"y", name("x", 1, 1), mark(m, 1, 2), name("y", 1, 2+len(m)), end(1, 3+len(m)))
	}
	checkTokens(t, "a==!=b", name("a", 1, 1), mark("==", 1, 2), mark("!=", 1, 4), name("b", 1, 6), end(1, 7))
	checkTokens(t, "!!=", mark("!", 1, 1), mark("!=", 1, 2), end(1, 4))
	checkTokens(t, "====", mark("==", 1, 1), mark("==", 1, 3), end(1, 5))
	checkTokens(t, "&&||", mark("&&", 1, 1), mark("||", 1, 3), end(1, 5))
	checkTokens(t, "*.~^", mark("*", 1, 1), mark(".", 1, 2), mark("~", 1, 3), mark("^", 1, 4), end(1, 5))
	checkFault(t, "a =b", fault(api.ErrSyntax, 1, 3))
	for src, col := range map[string]int{
		"=": 1, "&": 1, "|": 1, "= =": 1, "& &": 1, "|\n|": 1, "=!": 1, "&|": 1, "|&": 1, "&=": 1, "|=": 1,
		"===": 3, "&&&": 3, "|||": 3, "!==": 3, "! =": 3, "!&": 2, "^=": 2, "^^|": 3, "-=": 2,
	} {
		checkFault(t, src, fault(api.ErrSyntax, 1, col))
		checkFault(t, "a\n"+src, fault(api.ErrSyntax, 2, col))
	}
}

// P2.1: strings, their limit, and the order of their errors.
func TestScanStrings(t *testing.T) {
	checkTokens(t, `""`, str("", 1, 1), end(1, 3))
	checkTokens(t, `"a""b"`, str("a", 1, 1), str("b", 1, 4), end(1, 7))
	checkTokens(t, `"# {"#"`, str("# {", 1, 1), end(1, 8))
	checkTokens(t, `a"\"b`, name("a", 1, 1), str(`\`, 1, 2), name("b", 1, 5), end(1, 6))
	long := strings.Repeat("x", api.MaxPath)
	checkTokens(t, `"`+long+`"`, str(long, 1, 1), end(1, 259))
	checkFault(t, "\n \""+long+"x\"", fault(api.ErrLong, 2, 2))
	checkFault(t, "\""+long+"x\"\n\"", fault(api.ErrLong, 1, 1))
	checkFault(t, `"`, fault(api.ErrShort, 1, 1))
	checkFault(t, `"a`, fault(api.ErrShort, 1, 1))
	checkFault(t, "a\n;\"b c", fault(api.ErrShort, 2, 2))
	checkFault(t, `"a"b"`, fault(api.ErrShort, 1, 5))
	checkFault(t, `"`+long, fault(api.ErrShort, 1, 1))
	checkFault(t, `"`+long+`x`, fault(api.ErrShort, 1, 1))
	checkFault(t, "\"\n", fault(api.ErrSyntax, 1, 2))
	checkFault(t, "\"a\n", fault(api.ErrSyntax, 1, 3))
	checkFault(t, "x\n \"a\nb\"", fault(api.ErrSyntax, 2, 4))
	checkFault(t, "\"ab\t\x7f\"", fault(api.ErrSyntax, 1, 4))
	checkFault(t, `"`+long+"xx\t\"", fault(api.ErrSyntax, 1, 260))
	checkFault(t, `"`+long+"xx\xff", fault(api.ErrSyntax, 1, 260))
	checkFault(t, "\"é\"", fault(api.ErrSyntax, 1, 2))
}

// P2.1: the first token with an error gives the fault.
func TestScanFirstFault(t *testing.T) {
	long := strings.Repeat("n", api.MaxName+1)
	checkFault(t, "007 "+long, fault(api.ErrSyntax, 1, 1))
	checkFault(t, long+" 007", fault(api.ErrName, 1, 1))
	checkFault(t, "1234567890 \"", fault(api.ErrRange, 1, 1))
	checkFault(t, "a # 007 \"\n & 007", fault(api.ErrSyntax, 2, 2))
	checkFault(t, "a \"b\" \"c\n 007", fault(api.ErrSyntax, 1, 9))
}

// P2.1: the limit of a source.
func TestScanLength(t *testing.T) {
	most := strings.Repeat(" ", api.MaxSource-1)
	checkTokens(t, most+"a", name("a", 1, api.MaxSource), end(1, api.MaxSource+1))
	checkTokens(t, strings.Repeat("\n", api.MaxSource), end(api.MaxSource+1, 1))
	checkFault(t, most+"=", fault(api.ErrSyntax, 1, api.MaxSource))
	checkFault(t, most+"  ", api.Fault{Code: api.ErrLong})
	checkFault(t, "="+most+"a", api.Fault{Code: api.ErrLong})
	checkFault(t, "\""+most+"a", api.Fault{Code: api.ErrLong})
	if l, f := token.Scan(strings.Repeat(";", api.MaxSource)); f != (api.Fault{}) || len(l) != api.MaxSource+1 {
		t.Errorf("Scan of as many marks as fit: %d tokens, %v", len(l), f)
	}
}
