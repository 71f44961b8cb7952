package reader_test

import (
	"fmt"
	"math"
	"strings"
	"testing"

	"distaff/api"
)

// P6.1: TOKENS.

func TestQuotes(t *testing.T) {
	for quote, name := range quotes() {
		for text, d := range singles() {
			for _, gap := range append(gaps(), "") {
				reads(t, quote+gap+text, list(sym(name), d))
			}
		}
	}
	reads(t, ",@a", list(sym("unquote-splicing"), sym("a")))
	reads(t, ", @a", list(sym("unquote"), sym("@a")))
	reads(t, ",;\n@a", list(sym("unquote"), sym("@a")))
	reads(t, ",@@a", list(sym("unquote-splicing"), sym("@a")))
	reads(t, ",@ @", list(sym("unquote-splicing"), sym("@")))
	reads(t, ", @", list(sym("unquote"), sym("@")))
	reads(t, "@,a", sym("@"), list(sym("unquote"), sym("a")))
	reads(t, "'@a", list(sym("quote"), sym("@a")))
	fails(t, ",@", api.ErrOpen, 0)
	fails(t, ",", api.ErrOpen, 0)
}

func TestTexts(t *testing.T) {
	for text, want := range map[string]string{
		``: "", `a`: "a", `a b`: "a b", ` `: " ", "\n": "\n", "\r\n": "\r\n", "\t": "\t", "\x00": "\x00", "\x01\x7f": "\x01\x7f", `'();,` + "`": `'();,` + "`", `#t`: "#t", `.`: ".",
		`\"`: `"`, `\\`: `\`, `\n`: "\n", `\t`: "\t", `\r`: "\r", `\\n`: `\n`, `\\\"`: `\"`, `\\\\`: `\\`, `\"\"`: `""`, `a\"b\\c\nd\te\rf`: "a\"b\\c\nd\te\rf",
		`\x0;`: "\x00", `\x1;`: "\x01", `\xa;`: "\n", `\xA;`: "\n", `\x22;`: `"`, `\x5c;`: `\`, `\x5C;n`: `\n`, `\x3bb;`: "\u03bb", `\x3BB;`: "\u03bb", `\x3bB;`: "\u03bb", `\x1F600;`: "\U0001f600", `\x10ffff;`: "\U0010ffff", `\x10FFFF;`: "\U0010ffff",
		`\x00;`: "\x00", `\x000000;`: "\x00", `\x41;`: "A", `\x041;`: "A", `\x0041;`: "A", `\x00041;`: "A", `\x000041;`: "A", `\x41;\x42;`: "AB", `\x41;;`: "A;", `\x41;42;`: "A42;", `x\x41;x`: "xAx", `\xd7ff;\xe000;`: "\ud7ff\ue000", `\xfffd;`: "\ufffd",
		"\u0080": "\u0080", "\u03bb": "\u03bb", "\u07ff\u0800": "\u07ff\u0800", "\u20ac": "\u20ac", "\ud7ff\ue000": "\ud7ff\ue000", "\ufeff": "\ufeff", "\ufffd": "\ufffd", "\uffff": "\uffff", "\U0001f600": "\U0001f600", "\U0010ffff": "\U0010ffff", "a\u03bb\\n\u20ac": "a\u03bb\n\u20ac",
	} {
		reads(t, `"`+text+`"`, str(want))
		reads(t, `("`+text+`""`+text+`")`, list(str(want), str(want)))
		reads(t, `a"`+text+`"b`, sym("a"), str(want), sym("b"))
	}
	reads(t, `"a\\"b`, str(`a\`), sym("b"))
	reads(t, `"\\""\""`, str(`\`), str(`"`))
}

// Each SIGN, as it is and by its number.
func TestSignsOfTexts(t *testing.T) {
	for n := range 0x110000 {
		if n >= 0xD800 && n <= 0xDFFF {
			continue
		}
		if n != '"' && n != '\\' {
			reads(t, `"`+string(rune(n))+`"`, str(string(rune(n))))
		}
		format := []string{"%x", "%X", "%06x", "%06X"}[n%4]
		if reads(t, `"\x`+fmt.Sprintf(format, n)+`;"`, str(string(rune(n)))); t.Failed() {
			return
		}
	}
}

// noEscapes is what a TEXT can't hold, though it is UTF-8.
func noEscapes() []string {
	l := []string{
		`\x;`, `\x0000041;`, `\x0000000;`, `\x1000000;`, `\x00000041;`, `\x41`, `\x`, `\x4`, `\x41 ;`, `\x 41;`, `\x4 1;`, `\xg;`, `\x4g;`, `\xx41;`, `\x0x41;`, `\x-1;`, `\x+1;`, `\x4_1;`, `\x_41;`, `\x4.1;`, `\x41,`, `\x41:`, `\x\x41;`, `\x41\;`, "\\x41\n;", "\\x\u0664;", "\\x\uff11;",
		`\xd800;`, `\xD800;`, `\xdbff;`, `\xdc00;`, `\xdfff;`, `\x00d800;`, `\x110000;`, `\x1fffff;`, `\xffffff;`, `\xFFFFFF;`, `\xd83d;\xde00;`,
		`\X41;`, `\N`, `\T`, `\R`, `\u0041`, `\u{41}`, `\101`, "\\\u03bb", "\\\u00e9", "\\\U0001f600", "\\\ufffd",
	}
	for c := range 128 {
		if !strings.ContainsRune(`"\ntrx`, rune(c)) {
			l = append(l, `\`+string(rune(c)))
		}
	}
	return l
}

// noSigns is bytes that aren't UTF-8.
func noSigns() []string {
	l := []string{
		"\x80\x80", "\xc3(", "\xc3\xc3", "\xe2\x82", "\xe2\x82a", "\xe2a", "\xf0\x9f\x98", "\xf0\x9f\x98a", "\xf0\x9f", "\xc0\x80", "\xc1\xbf", "\xe0\x80\x80", "\xe0\x9f\xbf", "\xf0\x80\x80\x80", "\xf0\x8f\xbf\xbf",
		"\xed\xa0\x80", "\xed\xaf\xbf", "\xed\xb0\x80", "\xed\xbf\xbf", "\xf4\x90\x80\x80", "\xf5\x80\x80\x80", "\xf8\x88\x80\x80\x80", "\xfe", "\xff\xff", "\xe2\x82\xac\x80", "\u03bb\xff",
	}
	for c := 128; c < 256; c++ {
		l = append(l, string([]byte{byte(c)}))
	}
	return l
}

func TestTextsOfWrongSigns(t *testing.T) {
	for _, bad := range append(noEscapes(), noSigns()...) {
		failsAnywhere(t, `"`+bad+`"`, api.ErrRead)
		fails(t, `"a`+bad+`"`, api.ErrRead, 0)
		fails(t, `"`+bad+`a"`, api.ErrRead, 0)
		fails(t, "\"\u20ac\\n"+bad+"\u20ac\"", api.ErrRead, 0)
		fails(t, `"a"   "`+bad+`"`, api.ErrRead, 6)
		fails(t, `"`+strings.Repeat("a", 401)+bad+`"`, api.ErrRead, 0)
		fails(t, `"`+bad+strings.Repeat("a", 401)+`"`, api.ErrRead, 0)
	}
}

func TestTextsThatAreNotClosed(t *testing.T) {
	for _, text := range []string{`"`, `"a`, `"a b`, `"\`, `"a\`, `"\"`, `"\\\"`, `"a\\\`, `"\x41;`, `"\x41`, `"\x`, `"\n`, `")`, `";`, "\"\n", `"` + strings.Repeat("a", 400), `"` + strings.Repeat("a", 401), `"` + strings.Repeat("a", 5000), `"` + strings.Repeat(`\"`, 5000)} {
		failsAnywhere(t, text, api.ErrOpen)
		fails(t, `"a"`+text, api.ErrOpen, 3)
		fails(t, `"a\"" b `+text, api.ErrOpen, 8)
	}
	for _, bad := range append(noEscapes(), noSigns()...) {
		failsAnywhere(t, `"`+bad, api.ErrOpen)
		fails(t, `(a "b`+bad+"c)", api.ErrOpen, 3)
		fails(t, `"`+strings.Repeat("a", 401)+bad, api.ErrOpen, 0)
	}
	fails(t, `\`, api.ErrRead, 0)
	fails(t, `\"`, api.ErrRead, 0)
	fails(t, `\"a"`, api.ErrRead, 0)
}

func TestLongTexts(t *testing.T) {
	for text, sign := range map[string]string{
		"a": "a", " ": " ", "\n": "\n", "\x00": "\x00", "\u03bb": "\u03bb", "\u20ac": "\u20ac", "\ufffd": "\ufffd", "\U0001f600": "\U0001f600", `\"`: `"`, `\\`: `\`, `\n`: "\n", `\t`: "\t", `\r`: "\r",
		`\x0;`: "\x00", `\x41;`: "A", `\x000041;`: "A", `\x3bb;`: "\u03bb", `\x10ffff;`: "\U0010ffff",
	} {
		for _, n := range []int{398, 399, 400} {
			reads(t, `"`+strings.Repeat(text, n)+`"`, str(strings.Repeat(sign, n)))
			reads(t, `"`+strings.Repeat(text, n-1)+`b"`, str(strings.Repeat(sign, n-1)+"b"))
		}
		for _, n := range []int{401, 402, 800, 2000} {
			failsAnywhere(t, `"`+strings.Repeat(text, n)+`"`, api.ErrLong)
			fails(t, `"`+strings.Repeat(text, n-1)+`b"`, api.ErrLong, 0)
			fails(t, `(a "`+text+`" "b`+strings.Repeat(text, n-1)+`")`, api.ErrLong, len(text)+6)
		}
	}
}

// charNames is the signs that have names.
func charNames() map[string]int {
	return map[string]int{"space": 32, "newline": 10, "tab": 9, "nul": 0}
}

func TestChars(t *testing.T) {
	for name, n := range charNames() {
		reads(t, `#\`+name, char(n))
		reads(t, `(#\`+name+` #\`+name+`)`, list(char(n), char(n)))
		for _, behind := range []string{"(a)", "'a", "`a", ",a", ",@a", "\"a\"", ";a\na", " a", "\ta", "\na", "\ra"} {
			reads(t, `#\`+name+behind, append([]api.Datum{char(n)}, behindChar(behind)...)...)
		}
	}
	for text, n := range map[string]int{
		"a": 'a', "x": 'x', "X": 'X', "s": 's', "n": 'n', "t": 't', "0": '0', "#": '#', ".": '.', "@": '@', "\\": '\\', "|": '|', "[": '[', "\x00": 0, "\x0b": 11, "\x7f": 127,
		"x0": 0, "x00": 0, "x000000": 0, "x1": 1, "x41": 'A', "x000041": 'A', "xa": 10, "xA": 10, "xf": 15, "xAb": 0xab, "xe9": 233, "x3bb": 955, "x3BB": 955, "xd7ff": 0xd7ff, "xe000": 0xe000, "xfffd": 0xfffd, "x10ffff": 0x10ffff, "x10FFFF": 0x10ffff, "x1f600": 0x1f600,
		"\u00e9": 233, "\u03bb": 955, "\u20ac": 0x20ac, "\ufffd": 0xfffd, "\ufeff": 0xfeff, "\U0001f600": 0x1f600, "\U0010ffff": 0x10ffff,
	} {
		reads(t, `#\`+text, char(n))
		reads(t, `'#\`+text+`(#\`+text+`)#\`+text, list(sym("quote"), char(n)), list(char(n)), char(n))
		reads(t, `#\`+text+`;`+text, char(n))
		reads(t, `#(#\`+text+` #\`+text+"\n)", vec(char(n), char(n)))
	}
}

// behindChar is the data of some DELIMITERS with an a behind each.
func behindChar(text string) []api.Datum {
	a := sym("a")
	switch text[0] {
	case '(':
		return []api.Datum{list(a)}
	case '"':
		return []api.Datum{str("a")}
	case '\'', '`', ',':
		return []api.Datum{list(sym(quotes()[strings.TrimSuffix(text, "a")]), a)}
	}
	return []api.Datum{a}
}

// A DELIMITER as the one SIGN.
func TestCharsOfDelimiters(t *testing.T) {
	for _, c := range " \t\n\r()\";'`," {
		text := `#\` + string(c)
		reads(t, text, char(int(c)))
		reads(t, text+" a", char(int(c)), sym("a"))
		reads(t, "("+text+")", list(char(int(c))))
		reads(t, "(b . "+text+")", dot(sym("b"), char(int(c))))
		reads(t, text+";a\n"+text+"\"a\"", char(int(c)), char(int(c)), str("a"))
		reads(t, text+"(a)", char(int(c)), list(sym("a")))
		reads(t, text+"'"+text, char(int(c)), list(sym("quote"), char(int(c))))
		reads(t, text+" "+text, char(int(c)), char(int(c)))
		failsAnywhere(t, text+"a", api.ErrRead)
		failsAnywhere(t, text+"#", api.ErrRead)
		failsAnywhere(t, text+"1", api.ErrRead)
		failsAnywhere(t, text+`\`, api.ErrRead)
		failsAnywhere(t, text+"\xff", api.ErrRead)
	}
	fails(t, `#\,@`, api.ErrRead, 0)
}

// Each SIGN, as it is and by its number.
func TestSignsOfChars(t *testing.T) {
	for n := range 0x110000 {
		if n >= 0xD800 && n <= 0xDFFF {
			continue
		}
		reads(t, `#\`+string(rune(n)), char(n))
		format := []string{"%x", "%X", "%06x", "%06X"}[n%4]
		if reads(t, `#\x`+fmt.Sprintf(format, n), char(n)); t.Failed() {
			return
		}
	}
}

func TestWrongChars(t *testing.T) {
	for _, text := range []string{
		"spac", "spaces", "Space", "SPACE", "sp", "newlin", "newlines", "Newline", "nl", "linefeed", "return", "tabs", "ta", "Tab", "nu", "null", "Nul", "alarm", "delete", "altmode", "space.", "space#", "spacespace", "\u03bbspace",
		"xg", "x4g", "xx", "xx41", "x1234567", "x0000041", "x0000000", "x1000000", "xd800", "xD800", "xdbff", "xdc00", "xdfff", "x00dfff", "x110000", "x1fffff", "xffffff", "X41", "x-1", "x+1", "x4_1", "x_41", "x0x41", "x4.1", "u41", "U41", "x\u0664", "x\uff11", "x41\u03bb",
		"ab", "aa", "11", "a.", "a#", "##", "a\\", "\\\\", "\\x41", "\\n", "a|", "a[", "a{", "a\x00", "a\x0b", "a\x7f", "\x00a", "\u03bba", "a\u03bb", "\u03bb\u03bb", "\u20aca", "\U0001f600a", "\ufffda", "a\xff", "a\x80", "\u03bb\x80", "space\xff", "x41\xff", "x\xff", "a\u00a0", "a\u2028",
		strings.Repeat("a", 300), "x" + strings.Repeat("0", 300),
	} {
		failsAnywhere(t, `#\`+text, api.ErrRead)
		fails(t, `#\a #\`+text, api.ErrRead, 4)
	}
	for _, bad := range noSigns() {
		failsAnywhere(t, `#\`+bad, api.ErrRead)
		failsAnywhere(t, `#\`+bad+"a", api.ErrRead)
	}
	fails(t, `#\`, api.ErrRead, 0)
	fails(t, `(a #\`, api.ErrRead, 3)
}

func TestTruths(t *testing.T) {
	reads(t, "#t", truth(1))
	reads(t, "#f", truth(0))
	reads(t, "(#t #f)#t'#f", list(truth(1), truth(0)), truth(1), list(sym("quote"), truth(0)))
	for _, text := range []string{"#T", "#F", "#true", "#false", "#tt", "#ff", "#tf", "#t1", "#t.", "#t#", "#t#f", "#", "##", "###", "#a", "#1", "#e1", "#x41", "#d1", "#u8", "#;", "#|", "#'a", "#`a", "#,a", "#\"a\"", "# t", "#\tt", "#\nt", "#)", "#t\\", "#t\xff", "#t\u03bb"} {
		failsAnywhere(t, text, api.ErrRead)
	}
	reads(t, "t", sym("t"))
	reads(t, "f", sym("f"))
}

func TestNumbers(t *testing.T) {
	for text, want := range map[string]api.Datum{
		"0": exactly(false), "00": exactly(false), "-0": exactly(false), "+0": exactly(false), "1": exactly(false, 1), "+1": exactly(false, 1), "-1": exactly(true, 1), "007": exactly(false, 7), "4294967296": exactly(false, 0, 1), "-18446744073709551617": exactly(true, 1, 0, 1),
		"0.0": floating(0), "-0.0": floating(math.Copysign(0, -1)), "1.": floating(1), ".5": floating(0.5), "-.5": floating(-0.5), "+.5": floating(0.5), "1.5": floating(1.5), "1e3": floating(1000), "1E3": floating(1000), "1e+3": floating(1000), "1e-3": floating(0.001), "1.5e3": floating(1500), ".5e1": floating(5), "1.e1": floating(10),
		"1e400": floating(math.Inf(1)), "-1e400": floating(math.Inf(-1)), "1e-400": floating(0), "5e-324": floating(5e-324), "+inf.0": floating(math.Inf(1)), "-inf.0": floating(math.Inf(-1)), "+nan.0": floating(math.Float64frombits(0x7FF8000000000001)),
		strings.Repeat("0", 700): exactly(false), "-" + strings.Repeat("0", 699) + "1": exactly(true, 1), "1." + strings.Repeat("0", 698): floating(1),
	} {
		reads(t, text, want)
		reads(t, "("+text+" '"+text+"\"1\")", list(want, list(sym("quote"), want), str("1")))
		reads(t, "(a . "+text+")", dot(sym("a"), want))
	}
	greatest := make([]uint32, 64)
	for i := range greatest {
		greatest[i] = math.MaxUint32
	}
	const most = "32317006071311007300714876688669951960444102669715484032130345427524655138867890893197201411522913463688717960921898019494119559150490921095088152386448283120630877367300996091750197750389652106796057638384067568276792218642619756161838094338476170470581645852036305042887575891541065808607552399123930385521914333389668342420684974786564569494856176035326322058077805659331026192708460314150258592864177116725943603718461857357598351152301645904403697613233287231227125684710820209725157101726931323469678542580656697935045997268352998638215525166389437335543602135433229604645318478604952148193555853611059596230655"
	const over = "32317006071311007300714876688669951960444102669715484032130345427524655138867890893197201411522913463688717960921898019494119559150490921095088152386448283120630877367300996091750197750389652106796057638384067568276792218642619756161838094338476170470581645852036305042887575891541065808607552399123930385521914333389668342420684974786564569494856176035326322058077805659331026192708460314150258592864177116725943603718461857357598351152301645904403697613233287231227125684710820209725157101726931323469678542580656697935045997268352998638215525166389437335543602135433229604645318478604952148193555853611059596230656"
	reads(t, most, exactly(false, greatest...))
	reads(t, "-"+most, exactly(true, greatest...))
	for _, text := range []string{over, "-" + over, "+" + over, strings.Repeat("9", 617), strings.Repeat("9", 700), "-" + strings.Repeat("9", 700), strings.Repeat("0", 701), strings.Repeat("1", 701), "1." + strings.Repeat("0", 699), "1e" + strings.Repeat("0", 50), strings.Repeat("1", 18000)} {
		failsAnywhere(t, text, api.ErrRead)
	}
}

func TestNames(t *testing.T) {
	for _, name := range []string{"a", "A", "z", "Z", "ab", "set!", "list->vector", "call/cc", "quote", "...", "..", ".a", "a.", "-", "+", "--", "++", "1+", "-1+", "1a", "a1", "+5x", "+a", "-x", "-inf", "inf.0", "+inf.00", "+Inf.0", "+NaN.0", "nan.0", "1.5.2", "1..", "1e", "1e5000x", "1e-", "e5", ".e5", "+.", "-.", "1e12345", "--1", "1-", "1+2", "0x41", "1_000", "t", "true", "@", "@a", "a@b", "~", "^", "_", "$", "%", "&", "*", "/", ":", "<", "=", ">", "?", "!", "<=?", "a:b", "1/2", "%~&"} {
		reads(t, name, sym(name))
		reads(t, "("+name+"'"+name+")", list(sym(name), list(sym("quote"), sym(name))))
		reads(t, "(a . "+name+")", dot(sym("a"), sym(name)))
	}
	for _, start := range []string{"a", ".", "-", "1a", "?"} {
		for _, n := range []int{38, 39, 40} {
			reads(t, start+strings.Repeat("a", n-len(start)), sym(start+strings.Repeat("a", n-len(start))))
		}
		for _, n := range []int{41, 42, 80, 1000} {
			failsAnywhere(t, start+strings.Repeat("a", n-len(start)), api.ErrRead)
		}
	}
	reads(t, strings.Repeat(".", 40), sym(strings.Repeat(".", 40)))
	for _, text := range []string{strings.Repeat(".", 41), `\`, `a\`, `a\b`, `\a`, "|", "|a|", "a|b", "[", "]", "[a]", "{", "}", "{a}", "a#", "a#b", "1#", ".#", "#.", "\u03bb", "a\u03bb", "\u03bba", "\u00e9", "\U0001f600", "\xff", "a\xff", "\xffa", "a\x80b", "a\x00", "\x00", "a\x0bb", "\x0c", "a\x7f", "\x1b", "1\xff", "1\u03bb"} {
		failsAnywhere(t, text, api.ErrRead)
	}
}

// Each byte of ASCII as a WORD, and twice.
func TestWordsOfOneByte(t *testing.T) {
	for c := byte('!'); c < 127; c++ {
		one, two := string([]byte{c}), string([]byte{c, c})
		switch {
		case strings.Contains("()\";'`,", one):
			// no WORDS
		case c == '.':
			failsAnywhere(t, one, api.ErrRead)
			reads(t, two, sym(two))
		case c >= '0' && c <= '9':
			reads(t, one, exactly(false, []uint32{uint32(c - '0')}[:min(1, c-'0')]...))
			reads(t, two, exactly(false, []uint32{11 * uint32(c-'0')}[:min(1, c-'0')]...))
		case strings.Contains(`#[\]{|}`, one):
			failsAnywhere(t, one, api.ErrRead)
			failsAnywhere(t, two, api.ErrRead)
		default:
			reads(t, one, sym(one))
			reads(t, two, sym(two))
		}
	}
}
