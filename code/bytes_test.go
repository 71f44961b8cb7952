package code_test

import (
	"bytes"
	"slices"
	"strings"
	"testing"

	"distaff/api"
	"distaff/code"
)

// P10.2, Bytes, and the section Examples. That it answers ErrCode for programs that aren't RIGHT stands beside the tests of Right.

// wantBytes complains, if a program's bytes aren't these.
func wantBytes(t *testing.T, name string, c api.Code, parts ...string) {
	t.Helper()
	want := strings.Join(parts, "")
	if b, e := code.Bytes(c); e != api.OK || string(b) != want {
		t.Errorf("%s: %d, %q, not %q", name, e, short(string(b)), short(want))
	}
}

const (
	zero  = "\x00\x00\x00"
	one   = "\x00\x00\x01"
	two   = "\x00\x00\x02"
	three = "\x00\x00\x03"
)

func TestExamples(t *testing.T) {
	wantBytes(t, "the zero Code", api.Code{}, "\x00\x00\x00\x00\x00\x00\x00\x00\x00")
	if c, e := code.Read(make([]byte, 9)); e != api.OK || !isZero(c) {
		t.Errorf("nine bytes 0: %s, %d", told(c), e)
	}
}

func TestErrors(t *testing.T) {
	if _, e := code.Bytes(api.Code{Procs: []api.Proc{{Params: -1}}}); e != 101 {
		t.Error(e)
	}
	if _, e := code.Read(nil); e != 101 {
		t.Error(e)
	}
}

func TestBytesOfEachPart(t *testing.T) {
	wantBytes(t, "a constant", api.Code{Consts: data("a")}, one, one, "a", zero, zero)
	wantBytes(t, "constants", api.Code{Consts: data(`b "a" (1 . 2.5)`)}, three, one, "b", three, `"a"`, "\x00\x00\x09", "(1 . 2.5)", zero, zero)
	wantBytes(t, "a global", api.Code{Globals: []string{"car"}}, zero, one, three, "car", zero)
	wantBytes(t, "globals", api.Code{Globals: []string{"b", "", "a "}}, zero, three, one, "b", zero, two, "a ", zero)
	wantBytes(t, "a procedure", api.Code{Procs: []api.Proc{{}}}, zero, zero, one, zero, zero, zero, zero, zero, zero, zero)
	wantBytes(t, "its name", api.Code{Procs: []api.Proc{{Name: "fg"}}}, zero, zero, one, two, "fg", zero, zero, zero, zero, zero, zero)
	wantBytes(t, "Params", api.Code{Procs: []api.Proc{{Params: 1}}}, zero, zero, one, zero, one, zero, zero, zero, zero, zero)
	wantBytes(t, "Rest", api.Code{Procs: []api.Proc{{Rest: true}}}, zero, zero, one, zero, zero, one, zero, zero, zero, zero)
	wantBytes(t, "Slots", api.Code{Procs: []api.Proc{{Slots: 1}}}, zero, zero, one, zero, zero, zero, one, zero, zero, zero)
	wantBytes(t, "Depth", api.Code{Procs: []api.Proc{{Depth: 1}}}, zero, zero, one, zero, zero, zero, zero, one, zero, zero)
	wantBytes(t, "Free", api.Code{Procs: []api.Proc{{Free: 1}}}, zero, zero, one, zero, zero, zero, zero, zero, one, zero)
	wantBytes(t, "an instruction", api.Code{Procs: []api.Proc{{Code: make([]api.Instr, 1)}}}, zero, zero, one, zero, zero, zero, zero, zero, zero, one, zero, zero, zero)
	wantBytes(t, "Op, A, B", api.Code{Procs: []api.Proc{{Code: []api.Instr{{Op: 1, A: 2, B: 3}, {Op: 3, A: 1, B: 2}}}}}, zero, zero, one, zero, zero, zero, zero, zero, zero, two, one, two, three, three, one, two)
	wantBytes(t, "two procedures", api.Code{Procs: []api.Proc{{Name: "f", Code: []api.Instr{{Op: 1}}}, {Name: "g", Rest: true}}},
		zero, zero, two, one, "f", zero, zero, zero, zero, zero, one, one, zero, zero, one, "g", zero, one, zero, zero, zero, zero)
}

func TestBytesOfAllParts(t *testing.T) {
	c := api.Code{
		Procs:   []api.Proc{{Name: "main", Depth: 1, Code: []api.Instr{{Op: api.IGlobal, A: 1}, {Op: api.ITail}}}, {Name: "f", Params: 258, Rest: true, Slots: 772, Depth: 1286, Free: 65536}},
		Consts:  data(`a "λ"`),
		Globals: []string{"car", "f"},
	}
	wantBytes(t, "all parts", c, two, one, "a", "\x00\x00\x04", "\"\xce\xbb\"", two, three, "car", one, "f", two,
		"\x00\x00\x04", "main", zero, zero, zero, one, zero, two, "\x00\x00\x04", one, zero, "\x00\x00\x0e", zero, zero,
		one, "f", "\x00\x01\x02", one, "\x00\x03\x04", "\x00\x05\x06", "\x01\x00\x00", zero)
	for _, c := range programs() {
		wantBytes(t, "a program", c, string(written(c, printed(c))))
	}
}

func TestBytesOfNumbers(t *testing.T) {
	for _, n := range []struct {
		n    int
		text string
	}{
		{0, zero}, {1, one}, {127, "\x00\x00\x7f"}, {128, "\x00\x00\x80"}, {255, "\x00\x00\xff"}, {256, "\x00\x01\x00"}, {257, "\x00\x01\x01"}, {65535, "\x00\xff\xff"}, {65536, "\x01\x00\x00"}, {66051, "\x01\x02\x03"}, {8388608, "\x80\x00\x00"}, {16777214, "\xff\xff\xfe"}, {16777215, "\xff\xff\xff"},
	} {
		c := api.Code{Procs: []api.Proc{{Params: n.n, Slots: n.n, Depth: n.n, Free: n.n, Code: []api.Instr{{Op: n.n, A: n.n, B: n.n}}}}}
		wantBytes(t, "numbers", c, zero, zero, one, zero, n.text, zero, n.text, n.text, n.text, one, n.text, n.text, n.text)
	}
}

func TestBytesOfHowMany(t *testing.T) {
	wantBytes(t, "procedures", api.Code{Procs: make([]api.Proc, 4000)}, zero, zero, "\x00\x0f\xa0", strings.Repeat(zero, 4000*7))
	wantBytes(t, "constants", api.Code{Consts: slices.Repeat(data("7"), 4000)}, "\x00\x0f\xa0", strings.Repeat(one+"7", 4000), zero, zero)
	wantBytes(t, "globals", api.Code{Globals: make([]string, 4000)}, zero, "\x00\x0f\xa0", strings.Repeat(zero, 4000), zero)
	wantBytes(t, "instructions", api.Code{Procs: []api.Proc{{Code: make([]api.Instr, 40000)}}}, zero, zero, one, strings.Repeat(zero, 6), "\x00\x9c\x40", strings.Repeat(zero, 3*40000))
	for _, n := range []int{255, 256, 257} {
		c := api.Code{Procs: make([]api.Proc, n), Consts: slices.Repeat(data("a"), n), Globals: make([]string, n)}
		c.Procs[n-1].Code = make([]api.Instr, n)
		number := string([]byte{0, byte(n / 256), byte(n % 256)})
		wantBytes(t, "all", c, number, strings.Repeat(one+"a", n), number, strings.Repeat(zero, n), number, strings.Repeat(zero, 7*(n-1)+6), number, strings.Repeat(zero, 3*n))
	}
}

func TestBytesOfTexts(t *testing.T) {
	var every []byte
	for b := range 256 {
		every = append(every, byte(b))
	}
	for _, text := range []string{"", "\x00", "\xff", "\x00\x00\x01", "a b", string(every[:100]), string(every[100:200]), string(every[156:]), strings.Repeat("\xff", 99), strings.Repeat("λ", 50)} {
		length := string([]byte{0, 0, byte(len(text))})
		wantBytes(t, "a global", api.Code{Globals: []string{text, "x"}}, zero, two, length, text, one, "x", zero)
		wantBytes(t, "a name", api.Code{Procs: []api.Proc{{Name: text, Params: 2}}}, zero, zero, one, length, text, two, zero, zero, zero, zero, zero)
	}
	for _, n := range []int{2, 255, 256, 257} {
		d := api.Datum{Kind: api.DStr, Text: strings.Repeat("x", n-2)}
		wantBytes(t, "a constant", api.Code{Consts: []api.Datum{d}}, one, string([]byte{0, byte(n / 256), byte(n % 256)}), `"`+d.Text+`"`, zero, zero)
	}
	b, e := code.Bytes(api.Code{Consts: []api.Datum{longList(20000)}})
	if e != api.OK || !bytes.HasPrefix(b, []byte(one+"\x00\x4e\x20(\"aaa")) || len(b) != 6+20000+6 {
		t.Errorf("%d: %q", e, short(string(b)))
	}
}

// A constant stands there as it is printed, however it was written once.
func TestBytesOfConstants(t *testing.T) {
	for _, c := range []struct{ text, want string }{
		{"+1", "1"}, {"-0", "0"}, {"1.50", "1.5"}, {"-0.0", "-0.0"}, {"+nan.0", "+nan.0"}, {"#\\x41", `#\A`}, {"#\\x20", `#\space`}, {`"\x41;\x1F;"`, `"A\x1f;"`}, {"\"a\nb\"", `"a\nb"`}, {"'a", "(quote a)"}, {"(a . (b . c))", "(a b . c)"}, {"(1 . (2 . ()))", "(1 2)"}, {" ( a ;b\n#( ) ) ", "(a #())"},
	} {
		wantBytes(t, c.text, api.Code{Consts: data(c.text)}, one, string([]byte{0, 0, byte(len(c.want))}), c.want, zero, zero)
	}
}
