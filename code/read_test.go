package code_test

import (
	"bytes"
	"math"
	"slices"
	"strings"
	"testing"

	"distaff/api"
	"distaff/code"
)

// P10.2, Read

// reads complains, if bytes aren't those of this program.
func reads(t *testing.T, name string, b []byte, want api.Code) {
	t.Helper()
	c, e := code.Read(b)
	if e != api.OK || !equal(c, want) || !code.Same(c, want) || !code.Right(c) {
		t.Errorf("%s: %d, %s, not %s", name, e, told(c), told(want))
	}
}

// refuses complains, if there is a program that has these bytes.
func refuses(t *testing.T, name string, b []byte) {
	t.Helper()
	if c, e := code.Read(b); e != api.ErrCode || !isZero(c) {
		t.Errorf("%s: %q: %d, %s", name, short(string(b)), e, told(c))
	}
}

// greatest is programs that have the most of something.
func greatest() []api.Code {
	ten := api.Proc{Name: "f", Code: slices.Repeat([]api.Instr{{Op: 1, A: 2, B: 3}}, 10)}
	l := []api.Code{
		{Procs: make([]api.Proc, 4000)}, {Consts: slices.Repeat(data("(a . 1)"), 4000)}, {Globals: slices.Repeat([]string{"a"}, 4000)},
		{Procs: []api.Proc{{Code: make([]api.Instr, 40000)}}}, {Procs: []api.Proc{{Code: make([]api.Instr, 39999)}, {}, {Code: make([]api.Instr, 1)}, {}}}, {Procs: slices.Repeat([]api.Proc{ten}, 4000)},
		{Procs: slices.Repeat([]api.Proc{ten}, 4000), Consts: slices.Repeat(data("#(a)"), 4000), Globals: slices.Repeat([]string{strings.Repeat("a", 100)}, 4000)},
	}
	for _, d := range longest(20000) {
		l = append(l, api.Code{Consts: []api.Datum{d}}, api.Code{Consts: append(data("a"), d, d)})
	}
	return l
}

func TestReadOfWhatBytesGave(t *testing.T) {
	for _, c := range slices.Concat(programs(), others(), greatest()) {
		b, e := code.Bytes(c)
		if e == api.OK {
			reads(t, "what Bytes gave", b, c)
			reads(t, "what was laid out", written(c, printed(c)), c)
		} else if code.Right(c) {
			t.Errorf("%d: %s", e, told(c))
		}
	}
}

// All that are not a number are printed alike, and are one.
func TestReadOfWhatIsNotANumber(t *testing.T) {
	c := api.Code{Consts: []api.Datum{{Kind: api.DNum, Num: api.Num{Float: true, F: math.Float64frombits(0xFFF0000000000123)}}}}
	b, _ := code.Bytes(c)
	if got, e := code.Read(b); e != api.OK || !code.Same(got, c) {
		t.Errorf("%d, %s", e, told(got))
	}
}

func TestReadOfNoBytes(t *testing.T) {
	refuses(t, "nil", nil)
	refuses(t, "empty", []byte{})
	refuses(t, "empty, but for spare room", make([]byte, 0, 9))
	for n := range 40 {
		if n != 9 {
			refuses(t, "bytes 0", make([]byte, n))
		}
	}
}

func TestReadOfBytesThatAreCutOff(t *testing.T) {
	for _, c := range append(programs(), api.Code{Procs: slices.Repeat(full().Procs, 10), Consts: slices.Repeat(full().Consts, 10), Globals: slices.Repeat(full().Globals, 10)}) {
		b := written(c, printed(c))
		for n := range b {
			refuses(t, "cut off, with spare room", b[:n])
			refuses(t, "cut off", slices.Clone(b[:n:n]))
			compare(t, b[n:])
		}
	}
}

func TestReadOfBytesWithMoreBehind(t *testing.T) {
	for _, c := range programs() {
		b := written(c, printed(c))
		for more := range 256 {
			refuses(t, "a byte behind", append(slices.Clone(b), byte(more)))
		}
		for n := 1; n < 30; n++ {
			refuses(t, "bytes 0 behind", append(slices.Clone(b), make([]byte, n)...))
		}
		refuses(t, "the same twice", slices.Repeat(b, 2))
		refuses(t, "the zero Code behind", append(slices.Clone(b), make([]byte, 9)...))
		refuses(t, "a blank ahead", append([]byte(" "), b...))
	}
	for _, c := range greatest() {
		refuses(t, "a byte behind", append(written(c, printed(c)), 0))
	}
}

// put lays a NUM at a place of some bytes.
func put(b []byte, at, n int) []byte {
	b = slices.Clone(b)
	b[at], b[at+1], b[at+2] = byte(n>>16), byte(n>>8), byte(n)
	return b
}

// numAt is the NUM at a place.
func numAt(b []byte, at int) int {
	return int(b[at])<<16 | int(b[at+1])<<8 | int(b[at+2])
}

// Each number of a list's parts, and each length of a TEXT.
func TestReadOfCountsAndLengthsThatAreWrong(t *testing.T) {
	for _, c := range []api.Code{full(), programs()[8], programs()[9], programs()[11], programs()[12], programs()[13]} {
		w := laidOut(c, printed(c))
		for _, at := range w.counts {
			n := numAt(w.b, at)
			for _, other := range []int{n + 1, n + 2, n + 255, n + 256, n + 65536, n - 1, 101, 4001, 20001, 40001, 1 << 16, 1 << 23, api.MaxNum - 1, api.MaxNum} {
				if other >= 0 && other != n {
					refuses(t, "another count", put(w.b, at, other))
				}
			}
		}
	}
	for _, c := range programs() {
		w := laidOut(c, printed(c))
		last := w.counts[len(w.counts)-1]
		left := (len(w.b) - last - 3) / 9
		refuses(t, "one more than there are", put(w.b, last, left+1))
	}
}

func TestReadOfListsBeyondTheirBounds(t *testing.T) {
	one := slices.Repeat([]string{"1"}, 4001)
	for _, n := range []int{4001, 4002, 5000} {
		refuses(t, "procedures", written(api.Code{Procs: make([]api.Proc, n)}, nil))
		refuses(t, "globals", written(api.Code{Globals: make([]string, n)}, nil))
		refuses(t, "constants", written(api.Code{}, slices.Repeat(one[:1], n)))
	}
	procs := func(instrs ...int) []byte {
		var c api.Code
		for _, n := range instrs {
			c.Procs = append(c.Procs, api.Proc{Name: "f", Code: slices.Repeat([]api.Instr{{Op: 1, A: 2, B: 3}}, n)})
		}
		return written(c, nil)
	}
	for _, l := range [][]int{{40001}, {40002}, {50000}, {0, 40001}, {40001, 0}, {40000, 1}, {1, 40000}, {20000, 0, 20001}, {13333, 13333, 13335}, {40000, 40000}, slices.Repeat([]int{11}, 3637)} {
		refuses(t, "instructions", procs(l...))
	}
	refuses(t, "all of them", written(api.Code{Procs: make([]api.Proc, 4001), Globals: make([]string, 4001)}, one))
}

func TestReadOfTextsBeyondTheirBounds(t *testing.T) {
	for _, name := range []string{strings.Repeat("a", 101), strings.Repeat("\xff", 101), strings.Repeat("λ", 51), strings.Repeat("a", 256), strings.Repeat("a", 65536)} {
		for i := range full().Procs {
			c := full()
			c.Procs[i].Name = name
			refuses(t, "a name", written(c, printed(c)))
		}
		for i := range full().Globals {
			c := full()
			c.Globals[i] = name
			refuses(t, "a global", written(c, printed(c)))
		}
	}
	for _, d := range longest(20001) {
		c := api.Code{Consts: []api.Datum{d}}
		if texts := printed(c); len(texts[0]) != 20001 {
			t.Fatalf("%d bytes", len(texts[0]))
		}
		refuses(t, "a constant", written(c, printed(c)))
	}
}

func TestReadOfRest(t *testing.T) {
	rest := func(n int) []byte {
		w := laidOut(api.Code{Consts: data("a"), Globals: []string{"b"}, Procs: []api.Proc{{Name: "f", Params: 1, Slots: 2}}}, []string{"a"})
		return put(w.b, w.counts[len(w.counts)-1]-4*3, n)
	}
	reads(t, "0", rest(0), api.Code{Consts: data("a"), Globals: []string{"b"}, Procs: []api.Proc{{Name: "f", Params: 1, Slots: 2}}})
	reads(t, "1", rest(1), api.Code{Consts: data("a"), Globals: []string{"b"}, Procs: []api.Proc{{Name: "f", Params: 1, Rest: true, Slots: 2}}})
	for n := 2; n < 1000; n++ {
		refuses(t, "neither", rest(n))
	}
	for _, n := range []int{1 << 15, 1<<16 - 1, 1 << 16, 1<<16 + 1, 1 << 20, 1 << 23, 1<<24 - 256, api.MaxNum} {
		refuses(t, "neither", rest(n))
	}
}

// spellings is texts that are no datum's Print: of one datum in another spelling, with something beside it, of several, of none.
func spellings() []string {
	return []string{
		"", " ", "\n", ";", ";a\n", " a", "a ", "\ta", "a\n", "a\r", ";c\na", "a;c", "a ;", "a b", "a a", "1 2", "()()", "(a) b", "\"a\" \"b\"", "\x00", "a\x00",
		"+1", "01", "00", "-0", "+0", "1.", ".5", "1.50", "01.5", "+1.5", "1e2", "1e0", "1.0e0", "100.0e0", "1.0E21", "1.0e+21", "1e21", "0.00", "-.0", "1.0e400", "5e-324", "0.1e1", "1e-400", "+4294967296", "04294967296",
		"'a", "`a", ",a", ",@a", "(quote  a)", "( a)", "(a )", "( )", "(a  b)", "(a\nb)", "(a;c\n)", "(a . (b))", "(a . (b . c))", "(a . ())", "(a .(b))", "(a . b )", "#( )", "#(a )", "#( a)", "('a)", "(a . 'b)", "(\"a\"b)", "(a(b))", "((a)b)", "(a\"b\")", "#(a#(b))",
		"#\\x41", "#\\x61", "#\\x20", "#\\xa", "#\\x9", "#\\x0", "#\\x03bb", "#\\x3BB", "#\\λ", "#\\ ", "#\\\n", "#\\\x7f", "#\\x7F", "#\\spac", "#\\Space", "#T", "#F", "#true", "#",
		"\"\\x41;\"", "\"\\x1F;\"", "\"\\x01f;\"", "\"\\xa;\"", "\"a\nb\"", "\"a\tb\"", "\"a\rb\"", "\"\x1f\"", "\"\x7f\"", "\"\\x7F;\"", "\"\\x3bb;\"", "\"\\x22;\"", "\"\\x5c;\"", "\"\\q\"", "\"\xff\"", "\"a", "a\"", "\"\"\"", "\"" + strings.Repeat("a", 401) + "\"",
		"(", ")", "(a", "a)", "(a . b c)", "( . a)", "(a . )", ".", ". a", "#(a . b)", "'", "(')", "[a]", "λ", "\xff", "a\xff", strings.Repeat("a", 41), strings.Repeat("9", 701), strings.Repeat("(", 61) + strings.Repeat(")", 61), "#(" + strings.Repeat("1 ", 200) + "1)", "(" + strings.Repeat("1 ", 2999) + "1)", strings.Repeat(" ", 20000), strings.Repeat("a ", 10000),
	}
}

func TestReadOfConstantsThatAreSpeltOtherwise(t *testing.T) {
	for _, text := range spellings() {
		refuses(t, "alone", written(api.Code{}, []string{text}))
		for i := range full().Consts {
			texts := printed(full())
			texts[i] = text
			refuses(t, "among others", written(full(), texts))
		}
	}
}

func TestReadOfConstants(t *testing.T) {
	for _, text := range []string{
		"a", "1", "-1", "0", "0.0", "-0.0", "1.5", "1.0e21", "+nan.0", "+inf.0", "-inf.0", "4294967296", "#t", "#f", `#\a`, `#\x`, `#\X`, `#\space`, `#\newline`, `#\tab`, `#\nul`, `#\x1`, `#\x7f`, `#\x3bb`, `#\(`, `#\;`, `#\"`, `#\'`, `""`, `"a b"`, `"\n\t\r\"\\"`, `"\x1f;\x7f;"`, `"λ"`, `";"`, `"("`,
		"()", "#()", "(a)", "(a b)", "(a . b)", "#(a b)", "(quote a)", "(quote . a)", "(a quote b)", "(a . #(b))", "((a . b) . c)", "(#\\( #\\))", "...", "-", "+", "a.b",
	} {
		reads(t, text, written(api.Code{}, []string{text}), api.Code{Consts: data(text)})
	}
}

// Bytes of any other kind than Bytes gives.
func TestReadOfOtherBytes(t *testing.T) {
	for _, s := range []string{"(a b)", "\x00", "\xff\xff\xff", "\x00\x00\x01", "\x00\x0f\xa0", "\x00\x00\x01\x00\x00\x01", "\xef\xbb\xbf" + string(make([]byte, 9))} {
		refuses(t, "other bytes", []byte(s))
	}
	for _, n := range []int{1, 3, 9, 1000, 1 << 20} {
		for _, b := range []byte{1, 10, 15, 127, 128, 255} {
			refuses(t, "one byte again and again", bytes.Repeat([]byte{b}, n))
		}
	}
	refuses(t, "many bytes 0", make([]byte, 1<<24))
}
