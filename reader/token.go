package reader

import (
	"strconv"
	"strings"
	"unicode/utf8"

	"distaff/api"
	"distaff/datum"
	"distaff/tower"
)

// The kinds of TOKENS.
const (
	list    = iota // a bracket that opens one
	vector         // and one that opens a vector
	closing        // a bracket that closes either
	quote
	point
	single // a datum by itself
)

// blanks is the BLANKS but comments.
const blanks = " \t\n\r"

// delimiters is the DELIMITERS.
const delimiters = blanks + "()\";'`,"

// token is a TOKEN, with the places of its first byte and of the one behind it.
type token struct {
	kind    int
	at, end int
	name    string    // a QUOTE's symbol
	datum   api.Datum // a single one's
}

// mark is a TOKEN that is always the same bytes.
type mark struct {
	text string
	kind int
	name string
}

// marks is all of these; the first one that fits counts.
var marks = [7]mark{
	{"(", list, ""}, {"#(", vector, ""}, {")", closing, ""},
	{"'", quote, "quote"}, {"`", quote, "quasiquote"}, {",@", quote, "unquote-splicing"}, {",", quote, "unquote"},
}

// behindBlanks is the place behind the BLANKS that stand at a place.
func behindBlanks(text string, at int) int {
	rest := strings.TrimLeft(text[at:], blanks)
	for strings.HasPrefix(rest, ";") {
		_, rest, _ = strings.Cut(rest, "\n")
		rest = strings.TrimLeft(rest, blanks)
	}
	return len(text) - len(rest)
}

// tokenAt is the TOKEN at a place where no BLANK stands.
func tokenAt(text string, at int) (token, api.Errno) {
	rest := text[at:]
	for _, m := range marks {
		if strings.HasPrefix(rest, m.text) {
			return token{kind: m.kind, at: at, end: at + len(m.text), name: m.name}, api.OK
		}
	}
	t := token{kind: single, at: at}
	var length int
	var e api.Errno
	switch {
	case rest[0] == '"':
		t.datum, length, e = quotedText(rest)
	case strings.HasPrefix(rest, `#\`):
		t.datum, length, e = char(rest)
	default:
		length = wordLength(rest)
		if rest[:length] == "." {
			t.kind = point
		} else {
			t.datum, e = word(rest[:length])
		}
	}
	t.end = at + length
	return t, e
}

// nodes is how many a TOKEN adds that begins a datum.
func (t token) nodes() int {
	if t.kind == quote {
		return 2 // the list and its symbol
	}
	return 1
}

// wordLength is how many bytes stand ahead of the first DELIMITER, or of the end.
func wordLength(rest string) int {
	if i := strings.IndexAny(rest, delimiters); i >= 0 {
		return i
	}
	return len(rest)
}

// word is the datum of a WORD that isn't the point.
func word(s string) (api.Datum, api.Errno) {
	switch s {
	case "#t":
		return api.Datum{Kind: api.DBool, N: 1}, api.OK
	case "#f":
		return api.Datum{Kind: api.DBool}, api.OK
	}
	if n, e := tower.Parse(s); e == api.OK {
		return api.Datum{Kind: api.DNum, Num: n}, api.OK
	}
	if datum.Name(s) {
		return datum.Sym(s), api.OK
	}
	return api.Datum{}, api.ErrRead
}

// char is the datum of the CHAR with which rest begins, and its length.
func char(rest string) (api.Datum, int, api.Errno) {
	const start = len(`#\`)
	sign, n := firstSign(rest[start:])
	length := start + n + wordLength(rest[start+n:])
	if length > start+n {
		sign, n = namedSign(rest[start:length])
	}
	if n == 0 {
		return api.Datum{}, 0, api.ErrRead
	}
	return api.Datum{Kind: api.DChar, N: int(sign)}, length, api.OK
}

// quotedText is the datum of the TEXT with which rest begins, and its length.
func quotedText(rest string) (api.Datum, int, api.Errno) {
	length := textLength(rest)
	if length == 0 {
		return api.Datum{}, 0, api.ErrOpen
	}
	text, e := unescaped(rest[1 : length-1])
	if e != api.OK {
		return api.Datum{}, 0, e
	}
	return api.Datum{Kind: api.DStr, Text: text}, length, api.OK
}

// textLength is how many bytes a TEXT has; 0, if it isn't closed.
func textLength(rest string) int {
	for i := 1; i < len(rest); i++ {
		switch rest[i] {
		case '"':
			return i + 1
		case '\\':
			i++
		}
	}
	return 0
}

// unescaped is the SIGNS that a TEXT means.
func unescaped(s string) (string, api.Errno) {
	var b strings.Builder
	signs := 0
	for len(s) > 0 {
		sign, n := signOrEscape(s)
		if n == 0 {
			return "", api.ErrRead
		}
		b.WriteRune(sign)
		signs++
		s = s[n:]
	}
	if signs > api.MaxStr {
		return "", api.ErrLong
	}
	return b.String(), api.OK
}

// In what follows, beside a SIGN stands of how many bytes it was made: of none, if there is no SIGN.

// signOrEscape is the SIGN or ESCAPE with which s begins.
func signOrEscape(s string) (rune, int) {
	escape, ok := strings.CutPrefix(s, `\`)
	if !ok {
		return firstSign(s)
	}
	switch sign, _ := firstSign(escape); sign {
	case '"', '\\':
		return sign, 2
	case 'n':
		return '\n', 2
	case 't':
		return '\t', 2
	case 'r':
		return '\r', 2
	case 'x':
		return hexadecimalEscape(escape)
	}
	return 0, 0
}

// hexadecimalEscape is the SIGN of an ESCAPE, from its x on.
func hexadecimalEscape(escape string) (rune, int) {
	digits, _, closed := strings.Cut(escape[1:], ";")
	sign, n := numberedSign(digits)
	if !closed || n == 0 {
		return 0, 0
	}
	return sign, len(`\x`) + n + len(`;`)
}

// firstSign is the SIGN with which s begins.
func firstSign(s string) (rune, int) {
	sign, n := utf8.DecodeRuneInString(s)
	if sign == utf8.RuneError && n <= 1 { // longer, it is that sign itself
		return 0, 0
	}
	return sign, n
}

// namedSign is the SIGN of a name of more than one sign.
func namedSign(name string) (rune, int) {
	switch name {
	case "space":
		return ' ', len(name)
	case "newline":
		return '\n', len(name)
	case "tab":
		return '\t', len(name)
	case "nul":
		return 0, len(name)
	}
	digits, ok := strings.CutPrefix(name, "x")
	if !ok {
		return 0, 0
	}
	return numberedSign(digits)
}

// numberedSign is the SIGN whose number has these hexadecimal digits.
func numberedSign(digits string) (rune, int) {
	n, err := strconv.ParseUint(digits, 16, 32)
	if err != nil || len(digits) > 6 || !utf8.ValidRune(rune(n)) {
		return 0, 0
	}
	return rune(n), len(digits)
}
