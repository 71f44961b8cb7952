package reader_test

import (
	"slices"
	"strings"
	"testing"

	"distaff/api"
)

// P6.1: BLANKS and DELIMITERS.

// gaps is what may stand between TOKENS.
func gaps() []string {
	return []string{" ", "\t", "\n", "\r", "\r\n", "  ", " \t\r\n ", ";\n", ";a\n", " ;a b\n", "\t; ( ) \" ' ` , #\\ . \\ ; \r a\n\n", ";;\n;\n", ";\x00\x0b\xff\xc3\n", ";\u03bb\n"}
}

// The section Examples.
func TestExamples(t *testing.T) {
	reads(t, "(a . (b)) 'c", list(sym("a"), sym("b")), list(sym("quote"), sym("c")))
	fails(t, "(a . )", api.ErrRead, 5)
}

func TestBlanksStandAnywhere(t *testing.T) {
	tokens := []string{"(", "a", ".", "b", ")", "'", "#(", "1", "\"c d\"", ")", "`", "(", ",", "x", ",@", "y", ")", "#\\(", "#\\space", "#t", "(", ")"}
	want := []api.Datum{
		dot(sym("a"), sym("b")), list(sym("quote"), vec(exactly(false, 1), str("c d"))), list(sym("quasiquote"), list(list(sym("unquote"), sym("x")), list(sym("unquote-splicing"), sym("y")))),
		char('('), char(' '), truth(1), list(),
	}
	for _, gap := range gaps() {
		text := strings.Join(tokens, gap)
		reads(t, text, want...)
		reads(t, gap+text, want...)
		reads(t, text+gap, want...)
		reads(t, gap+gap+text+gap+gap, want...)
		reads(t, text+gap+text, slices.Concat(want, want)...)
	}
}

func TestBlanksAlone(t *testing.T) {
	reads(t, "")
	for _, gap := range gaps() {
		reads(t, gap)
		reads(t, strings.TrimSuffix(gap, "\n"))
	}
	reads(t, strings.Repeat(" ", 20000))
	reads(t, strings.Repeat(";\n", 10000))
	reads(t, strings.Repeat(";", 20000))
}

func TestBlanksNeedNotStand(t *testing.T) {
	a, b, c := sym("a"), sym("b"), sym("c")
	quoted := func(d api.Datum) api.Datum { return list(sym("quote"), d) }
	for text, want := range map[string][]api.Datum{
		"(a)(b)": {list(a), list(b)}, "a(b)c": {a, list(b), c}, "a\"b\"c": {a, str("b"), c}, `"a""b"`: {str("a"), str("b")}, "'a'b": {quoted(a), quoted(b)}, "a'b": {a, quoted(b)}, "a''b": {a, quoted(quoted(b))},
		"a`b": {a, list(sym("quasiquote"), b)}, "a,b": {a, list(sym("unquote"), b)}, "a,@b": {a, list(sym("unquote-splicing"), b)}, "a;b\nc": {a, c}, "(a;)\nb)": {list(a, b)}, "a;": {a}, "#\\a(b)": {char('a'), list(b)}, "#\\a\"b\"": {char('a'), str("b")},
		"#\\a'b": {char('a'), quoted(b)}, "#\\a;b": {char('a')}, "#\\space;b\nc": {char(' '), c}, "#t(#f)": {truth(1), list(truth(0))}, "1'2": {exactly(false, 1), quoted(exactly(false, 2))}, "\"a\"#\\b": {str("a"), char('b')},
		"\"a\"b\"c\"": {str("a"), b, str("c")}, "\"a\"#t": {str("a"), truth(1)}, "\"a\"1": {str("a"), exactly(false, 1)}, "\"a\"#(b)": {str("a"), vec(b)}, "(a)#(b)": {list(a), vec(b)}, "(a)b": {list(a), b}, "(a)#\\b": {list(a), char('b')}, "()()": {list(), list()},
		"(\"a\".\"b\")": {dot(str("a"), str("b"))}, "((a).b)": {list(list(a), sym(".b"))}, "(a\n.(b))": {list(a, b)}, "(a .'b)": {list(a, sym("quote"), b)}, "(a .\"b\")": {dot(a, str("b"))}, "(a ;\n.;\nb)": {dot(a, b)},
	} {
		reads(t, text, want...)
	}
	fails(t, "(a .#\\b)", api.ErrRead, 3) // a WORD that is none, as # is no DELIMITER
	fails(t, "(a .#(b))", api.ErrRead, 3)
}

func TestWordsNeedBlanksBetween(t *testing.T) {
	reads(t, "ab", sym("ab"))
	reads(t, "a.b", sym("a.b"))
	reads(t, "a@b", sym("a@b"))
	reads(t, "12", exactly(false, 12))
	for _, text := range []string{"a#(b)", "#t#f", "#t#(a)", "1#\\a", "a#\\b", "##(a)", "a#t", "#a"} {
		failsAnywhere(t, text, api.ErrRead)
	}
}

// Each byte between two WORDS.
func TestDelimiters(t *testing.T) {
	a, b := sym("a"), sym("b")
	for c := range 256 {
		text := "a" + string([]byte{byte(c)}) + "b"
		switch {
		case c == ' ' || c == '\t' || c == '\n' || c == '\r':
			reads(t, text, a, b)
		case c == '(':
			fails(t, text, api.ErrOpen, 1)
			reads(t, text+")", a, list(b))
		case c == ')':
			fails(t, text, api.ErrClose, 1)
			reads(t, "("+text, list(a), b)
		case c == '"':
			fails(t, text, api.ErrOpen, 1)
			reads(t, text+"\"", a, str("b"))
		case c == ';':
			reads(t, text, a)
		case c == '\'' || c == '`' || c == ',':
			reads(t, text, a, list(sym(quotes()[string(rune(c))]), b))
		case c >= 'a' && c <= 'z' || c >= 'A' && c <= 'Z' || c >= '0' && c <= '9' || strings.ContainsRune("!$%&*/:<=>?^_~+-.@", rune(c)):
			reads(t, text, sym(text))
		default:
			fails(t, text, api.ErrRead, 0)
		}
	}
}

func TestOtherBytesAreNoBlanks(t *testing.T) {
	for c := range 256 {
		if c > ' ' && c < 127 || c == ' ' || c == '\t' || c == '\n' || c == '\r' {
			continue
		}
		one := string([]byte{byte(c)})
		failsAnywhere(t, one, api.ErrRead)
		fails(t, "a "+one+" b", api.ErrRead, 2)
		fails(t, one+"a", api.ErrRead, 0)
		fails(t, "(a"+one+")", api.ErrRead, 1)
		fails(t, "()"+one, api.ErrRead, 2)
	}
	for _, sign := range []string{"\u0085", "\u00a0", "\u1680", "\u2003", "\u2028", "\u2029", "\u202f", "\u3000", "\u200b", "\ufeff", "\ufffd", "\u03bb"} {
		failsAnywhere(t, sign, api.ErrRead)
		fails(t, sign+"a", api.ErrRead, 0)
		fails(t, "a"+sign+"b", api.ErrRead, 0)
	}
}

func TestComments(t *testing.T) {
	a, b := sym("a"), sym("b")
	for _, inside := range []string{"", " ", "b", "(", ")", "\"", "#\\", "'", ";", "\\", "\r", "\x00", "\x0b\x0c", "\xff", "\xe2\x82", "\u2028", "\u0085", strings.Repeat("x", 1000)} {
		reads(t, ";"+inside)
		reads(t, "a;"+inside, a)
		reads(t, "a ;"+inside+"\n", a)
		reads(t, ";"+inside+"\nb", b)
		reads(t, "(a;"+inside+"\nb)", list(a, b))
		reads(t, "';"+inside+"\n(a .;"+inside+"\n;"+inside+"\nb;"+inside+"\n)", list(sym("quote"), dot(a, b)))
		fails(t, "(a ;"+inside, api.ErrOpen, 0)
		fails(t, ";"+inside+"\n)", api.ErrClose, len(inside)+2)
		fails(t, "';"+inside, api.ErrOpen, 0)
	}
	reads(t, "\"a;b\"", str("a;b"))
	reads(t, "\";\n\"", str(";\n"))
	reads(t, "#\\;", char(';'))
	reads(t, "#\\;;a", char(';'))
}
