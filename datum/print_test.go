package datum_test

import (
	"fmt"
	"math"
	"strconv"
	"strings"
	"testing"

	"distaff/api"
	"distaff/datum"
	"distaff/tower"
)

// P5.2

func prints(t *testing.T, d api.Datum, want string) {
	t.Helper()
	if got, e := datum.Print(d); e != api.OK || got != want {
		t.Errorf("%q, %d, not %q", got, e, want)
	}
}

// The section Examples.
func TestExamples(t *testing.T) {
	prints(t, api.Datum{Kind: api.DDot, Items: []api.Datum{datum.Sym("a"), {Kind: api.DStr, Text: "\""}, datum.Num(1)}}, `(a "\"" . 1)`)
}

func TestPrintOfSamples(t *testing.T) {
	for _, s := range samples() {
		prints(t, s.d, s.text)
		prints(t, list(s.d), "("+s.text+")")
		prints(t, vec(s.d, sym("a"), s.d), "#("+s.text+" a "+s.text+")")
		prints(t, dot(s.d, s.d, sym("a")), "("+s.text+" "+s.text+" . a)")
	}
}

func TestPrintOfTails(t *testing.T) {
	for _, s := range samples() {
		if s.d.Kind != api.DList && s.d.Kind != api.DDot {
			prints(t, dot(sym("a"), s.d), "(a . "+s.text+")")
			prints(t, dot(list(), vec(), s.d), "(() #() . "+s.text+")")
		}
	}
}

func TestPrintOfNumbers(t *testing.T) {
	for _, s := range []string{"0", "-1", "4294967296", "-18446744073709551617", strings.Repeat("9", 616), "0.0", "-0.0", "0.5", "-1.25", "100.0", "1.0e21", "1.0e-4", "5.0e-324", "-1.7976931348623157e308", "+inf.0", "-inf.0", "+nan.0"} {
		n, e := tower.Parse(s)
		if e != api.OK {
			t.Fatal(s, e)
		}
		prints(t, api.Datum{Kind: api.DNum, Num: n}, s)
	}
	prints(t, api.Datum{}, "0")
	prints(t, floating(math.Float64frombits(0xFFF8000000000123)), "+nan.0")
}

// signNames is the signs that the document gives names to.
var signNames = map[int]string{32: "space", 10: "newline", 9: "tab", 0: "nul"}

// wantedSign is a sign's text, by the document's words.
func wantedSign(n int) string {
	if name, ok := signNames[n]; ok {
		return "#\\" + name
	}
	if n >= 33 && n <= 126 {
		return "#\\" + string([]byte{byte(n)})
	}
	return fmt.Sprintf("#\\x%x", n)
}

func TestPrintOfSigns(t *testing.T) {
	for n, want := range map[int]string{
		0: `#\nul`, 1: `#\x1`, 8: `#\x8`, 9: `#\tab`, 10: `#\newline`, 11: `#\xb`, 13: `#\xd`, 15: `#\xf`, 16: `#\x10`, 27: `#\x1b`, 31: `#\x1f`, 32: `#\space`, 33: `#\!`, 34: `#\"`, 35: `#\#`, 39: `#\'`, 40: `#\(`, 41: `#\)`, 44: `#\,`,
		48: `#\0`, 59: `#\;`, 65: `#\A`, 92: `#\\`, 96: "#\\`", 97: `#\a`, 110: `#\n`, 120: `#\x`, 126: `#\~`, 127: `#\x7f`, 128: `#\x80`, 160: `#\xa0`, 233: `#\xe9`, 255: `#\xff`, 256: `#\x100`, 955: `#\x3bb`,
		0xABCD: `#\xabcd`, 0xD7FF: `#\xd7ff`, 0xE000: `#\xe000`, 0xFEFF: `#\xfeff`, 0xFFFD: `#\xfffd`, 0xFFFF: `#\xffff`, 0x10000: `#\x10000`, 0x10FFFF: `#\x10ffff`,
	} {
		prints(t, char(n), want)
	}
	for n := range 0x110000 {
		if n < 0xD800 || n > 0xDFFF {
			if prints(t, char(n), wantedSign(n)); t.Failed() {
				return
			}
		}
	}
}

// wantedInText is what stands for a sign in a text, by the document's words.
func wantedInText(n int) string {
	switch n {
	case 34, 92:
		return "\\" + string([]byte{byte(n)})
	case 10:
		return "\\n"
	case 9:
		return "\\t"
	case 13:
		return "\\r"
	}
	if n < 32 || n == 127 {
		return fmt.Sprintf("\\x%x;", n)
	}
	return string(rune(n))
}

func TestPrintOfTexts(t *testing.T) {
	for text, want := range map[string]string{
		"": `""`, "a b": `"a b"`, `"`: `"\""`, `\`: `"\\"`, `\"`: `"\\\""`, `""`: `"\"\""`, "\n": `"\n"`, "\t": `"\t"`, "\r": `"\r"`, "\r\n": `"\r\n"`, `\n`: `"\\n"`, "n": `"n"`,
		"\x00": `"\x0;"`, "\x01": `"\x1;"`, "\a": `"\x7;"`, "\b": `"\x8;"`, "\v": `"\xb;"`, "\f": `"\xc;"`, "\x0f": `"\xf;"`, "\x10": `"\x10;"`, "\x1b": `"\x1b;"`, "\x1f": `"\x1f;"`, " ": `" "`, "!": `"!"`, "~": `"~"`, "\x7f": `"\x7f;"`,
		"\u0080": "\"\u0080\"", "\u00a0": "\"\u00a0\"", "\u00e9": "\"\u00e9\"", "\u03bb": "\"\u03bb\"", "\u200b": "\"\u200b\"", "\u2028": "\"\u2028\"", "\ufeff": "\"\ufeff\"", "\ufffd": "\"\ufffd\"", "\U0001f600": "\"\U0001f600\"", "\U0010ffff": "\"\U0010ffff\"",
		"'();,`#": "\"'();,`#\"", "a\x00b\x7fc": `"a\x0;b\x7f;c"`, "\x00a": `"\x0;a"`, "\x1f;": `"\x1f;;"`,
	} {
		prints(t, str(text), want)
	}
	for n := range 0x110000 {
		if n < 0xD800 || n > 0xDFFF {
			prints(t, str(string(rune(n))), `"`+wantedInText(n)+`"`)
			if prints(t, str("a"+string(rune(n))+"\u03bb"), `"a`+wantedInText(n)+"\u03bb\""); t.Failed() {
				return
			}
		}
	}
}

func TestPrintOfLists(t *testing.T) {
	a, b := sym("a"), sym("b")
	for _, c := range []struct {
		d    api.Datum
		want string
	}{
		{list(), "()"}, {list(list()), "(())"}, {list(list(), list()), "(() ())"}, {list(vec()), "(#())"}, {vec(), "#()"}, {vec(vec()), "#(#())"}, {vec(list(), vec(), list()), "#(() #() ())"},
		{list(a, b, a, b), "(a b a b)"}, {vec(a, b, a, b), "#(a b a b)"}, {dot(a, b, a, b), "(a b a . b)"}, {dot(a, vec()), "(a . #())"}, {dot(list(), str("")), `(() . "")`}, {dot(dot(a, b), dot(a, b), b), "((a . b) (a . b) . b)"},
		{list(sym("quote"), a), "(quote a)"}, {list(sym("quasiquote"), list(sym("unquote"), a)), "(quasiquote (unquote a))"}, {list(sym("..."), sym("..")), "(... ..)"}, {dot(sym("-"), sym("...")), "(- . ...)"},
		{list(char(' '), str(" "), char('('), truth(0)), `(#\space " " #\( #f)`},
	} {
		prints(t, c.d, c.want)
	}
	prints(t, list(many(2999, a)...), "("+strings.Repeat("a ", 2998)+"a)")
	prints(t, dot(many(2999, a)...), "("+strings.Repeat("a ", 2997)+"a . a)")
	prints(t, vec(many(200, b)...), "#("+strings.Repeat("b ", 199)+"b)")
	prints(t, nested(60, a, wraps()[0]), strings.Repeat("(", 60)+"a"+strings.Repeat(")", 60))
	prints(t, nested(60, a, wraps()[2]), strings.Repeat("#(", 60)+"a"+strings.Repeat(")", 60))
	prints(t, nested(60, b, wraps()[4]), strings.Repeat("(", 60)+"b"+strings.Repeat(" . a)", 60))
}

// Signs that take much room, in all the texts there can be.
func TestPrintOfMuch(t *testing.T) {
	for _, sign := range []string{"\x1f", "\U0010ffff", `"`} {
		want := `"` + strings.Repeat(wantedInText(int([]rune(sign)[0])), 400) + `"`
		prints(t, str(strings.Repeat(sign, 400)), want)
		prints(t, list(many(2999, str(strings.Repeat(sign, 400)))...), "("+strings.Repeat(want+" ", 2998)+want+")")
	}
}

func TestPrintOfWrongData(t *testing.T) {
	for i, w := range wrongs() {
		if got, e := datum.Print(w.d); e != api.ErrDatum || got != "" {
			t.Errorf("%s: %q, %d", w.by+" "+strconv.Itoa(i), got, e)
		}
	}
}
