package code_test

import (
	"bytes"
	"math"
	"slices"
	"strings"
	"testing"

	"distaff/api"
	"distaff/code"
	"distaff/datum"
)

// The section Types, and P10.1, Right. Bytes agrees with it: it answers the bytes of RIGHT programs, and ErrCode for others.

func right(t *testing.T, name string, c api.Code) {
	t.Helper()
	if !code.Right(c) {
		t.Errorf("%s: not RIGHT", name)
	}
	if b, e := code.Bytes(c); e != api.OK || !bytes.Equal(b, written(c, printed(c))) {
		t.Errorf("%s: %d, %q", name, e, short(string(b)))
	}
}

func wrong(t *testing.T, name string, c api.Code) {
	t.Helper()
	if code.Right(c) {
		t.Errorf("%s: RIGHT", name)
	}
	if b, e := code.Bytes(c); e != api.ErrCode || len(b) > 0 {
		t.Errorf("%s: %d, %q", name, e, short(string(b)))
	}
}

// rightUpTo complains, if a program with the most of something isn't RIGHT, or is with one more.
func rightUpTo(t *testing.T, name string, most int, with func(n int) api.Code) {
	t.Helper()
	right(t, name, with(0))
	right(t, name, with(1))
	right(t, name, with(most-1))
	right(t, name, with(most))
	wrong(t, name, with(most+1))
	wrong(t, name, with(2*most))
}

func TestRightPrograms(t *testing.T) {
	for _, c := range programs() {
		right(t, told(c), c)
	}
}

func TestRightOfManyParts(t *testing.T) {
	const most = 4000
	one := data("(a . 1)")[0]
	rightUpTo(t, "Procs", most, func(n int) api.Code { return api.Code{Procs: make([]api.Proc, n)} })
	rightUpTo(t, "Consts", most, func(n int) api.Code { return api.Code{Consts: slices.Repeat([]api.Datum{one}, n)} })
	rightUpTo(t, "Globals", most, func(n int) api.Code { return api.Code{Globals: slices.Repeat([]string{"a"}, n)} })
	all := func(n int) api.Code {
		return api.Code{Procs: make([]api.Proc, n), Consts: slices.Repeat([]api.Datum{one}, n), Globals: make([]string, n)}
	}
	rightUpTo(t, "all three", most, all)
	c := all(most)
	c.Globals = append(c.Globals, "")
	wrong(t, "one Global too many", c)
	c = all(most)
	c.Consts = append(c.Consts, one)
	wrong(t, "one Const too many", c)
	c = all(most)
	c.Procs = append(c.Procs, api.Proc{})
	wrong(t, "one Proc too many", c)
}

func TestRightOfManyInstructions(t *testing.T) {
	const most = 40000
	rightUpTo(t, "in one procedure", most, func(n int) api.Code {
		return api.Code{Procs: []api.Proc{{Code: make([]api.Instr, n)}}}
	})
	rightUpTo(t, "in the last procedure", most, func(n int) api.Code {
		return api.Code{Procs: []api.Proc{{}, {}, {Code: make([]api.Instr, n)}}}
	})
	rightUpTo(t, "in two procedures", most, func(n int) api.Code {
		return api.Code{Procs: []api.Proc{{Code: make([]api.Instr, n/3)}, {Code: make([]api.Instr, n-n/3)}}}
	})
	ten := api.Proc{Code: make([]api.Instr, 10)}
	c := api.Code{Procs: slices.Repeat([]api.Proc{ten}, 4000)}
	right(t, "ten in each of 4000 procedures", c)
	for _, i := range []int{0, 1777, 3999} {
		c.Procs[i].Code = make([]api.Instr, 11)
		wrong(t, "one more", c)
		c.Procs[i].Code = make([]api.Instr, 9)
		right(t, "one less", c)
		c.Procs[i].Code = make([]api.Instr, 10)
	}
}

func TestRightOfNumbers(t *testing.T) {
	c := full()
	for i := range numbers(&c) {
		for _, n := range []int{0, 1, 21, 22, 180, 181, 4000, 4001, 40001, 65536, 16777214, 16777215} {
			c := full()
			*numbers(&c)[i] = n
			right(t, "a number", c)
		}
		for _, n := range []int{-1, -2, -16777215, 16777216, 16777217, 1 << 25, 1 << 32, 1<<32 + 1, -1 << 32, math.MaxInt, math.MinInt, math.MinInt + 1} {
			c := full()
			*numbers(&c)[i] = n
			wrong(t, "a number", c)
		}
	}
}

// Layer 11 says which numbers and instructions do no harm.
func TestRightWhateverNumbersMean(t *testing.T) {
	right(t, "no such constant", api.Code{Procs: []api.Proc{{Code: []api.Instr{{Op: api.IConst, A: 7}}}}})
	right(t, "no such instruction", api.Code{Procs: []api.Proc{{Code: []api.Instr{{Op: 22}}}}})
	right(t, "too few slots", api.Code{Procs: []api.Proc{{Params: 5, Rest: true}}})
	right(t, "no procedure", api.Code{Consts: data("1"), Globals: []string{"a"}})
	right(t, "the same name twice", api.Code{Procs: []api.Proc{{Name: "f"}, {Name: "f"}}, Consts: data("f f"), Globals: []string{"f", "f"}})
}

// wrongData is data that aren't RIGHT by layer 5.
func wrongData() []api.Datum {
	a := data("a")[0]
	deep := a
	for range 61 {
		deep = api.Datum{Kind: api.DList, Items: []api.Datum{deep}}
	}
	return []api.Datum{
		{Kind: -1}, {Kind: 8}, {Kind: api.DBool, N: 2}, {Kind: api.DChar, N: 0xD800}, {Kind: api.DChar, N: -1}, {Kind: api.DChar, N: 0x110000}, {Kind: api.DStr, Text: "\xff"}, {Kind: api.DStr, Text: strings.Repeat("a", 401)}, {Kind: api.DStr, N: 1},
		{Kind: api.DSym}, {Kind: api.DSym, Text: "a b"}, {Kind: api.DSym, Text: "1"}, {Kind: api.DSym, Text: "."}, {Kind: api.DSym, Text: "(a)"}, {Kind: api.DSym, Text: strings.Repeat("a", 41)}, {Kind: api.DSym, Text: "a", Items: []api.Datum{a}},
		{Kind: api.DNum, Num: api.Num{I: api.Int{Neg: true}}}, {Kind: api.DNum, Num: api.Num{I: api.Int{Limbs: []uint32{1, 0}}}}, {Kind: api.DNum, Num: api.Num{F: 1}}, {Kind: api.DNum, Num: api.Num{I: api.Int{Limbs: slices.Repeat([]uint32{1}, 65)}}}, {Kind: api.DNum, Text: "1"},
		{Kind: api.DList, N: 1}, {Kind: api.DList, Text: "a"}, {Kind: api.DDot}, {Kind: api.DDot, Items: []api.Datum{a}}, {Kind: api.DDot, Items: []api.Datum{a, {Kind: api.DList}}}, {Kind: api.DVec, Items: slices.Repeat([]api.Datum{a}, 201)}, {Kind: api.DList, Items: slices.Repeat([]api.Datum{a}, 3000)},
		{Kind: api.DList, Items: []api.Datum{a, {Kind: 8}, a}}, deep,
	}
}

func TestRightOfConstants(t *testing.T) {
	for _, d := range wrongData() {
		if datum.Right(d) {
			t.Fatalf("%+v is RIGHT", d)
		}
		wrong(t, "alone", api.Code{Consts: []api.Datum{d}})
		for i := range full().Consts {
			c := full()
			c.Consts[i] = d
			wrong(t, "among others", c)
		}
	}
	right(t, "as many as can be", api.Code{Consts: data("(" + strings.Repeat("a ", 2999) + ")")})
	right(t, "as deep as can be", api.Code{Consts: data(strings.Repeat("(", 60) + strings.Repeat(")", 60))})
}

// longest is data whose Print has a number of bytes: of one sign each, of several each, and of signs that Print writes with more of them.
func longest(length int) []api.Datum {
	str := func(sign string) api.Datum { return api.Datum{Kind: api.DStr, Text: strings.Repeat(sign, 400)} }
	return []api.Datum{
		longList(length),
		longList(length, slices.Repeat([]api.Datum{str("λ")}, 20)...),
		longList(length, slices.Repeat([]api.Datum{str("\U0001F600")}, 12)...),
		longList(length, slices.Repeat([]api.Datum{str("\x1f")}, 9)...),
		longList(length, slices.Repeat([]api.Datum{str("\n")}, 24)...),
		longList(length, data("#("+strings.Repeat("(a . -1.5) ", 200)+") ("+strings.Repeat("#\\space ", 1000)+")")...),
	}
}

func TestRightOfLongConstants(t *testing.T) {
	const most = 20000
	for i, d := range longest(most) {
		right(t, "alone", api.Code{Consts: []api.Datum{d}})
		right(t, "several", api.Code{Consts: append(data("a"), d, d, d)})
		longer := longest(most + 1)[i]
		if text, e := datum.Print(longer); e != api.OK || len(text) != most+1 {
			t.Fatalf("%d bytes, %d", len(text), e)
		}
		wrong(t, "alone", api.Code{Consts: []api.Datum{longer}})
		wrong(t, "behind others", api.Code{Consts: []api.Datum{d, d, longer}})
		wrong(t, "ahead of others", api.Code{Consts: []api.Datum{longer, d, d}})
	}
	wrong(t, "as long as can be", api.Code{Consts: []api.Datum{{Kind: api.DList, Items: slices.Repeat([]api.Datum{{Kind: api.DStr, Text: strings.Repeat("\x1f", 400)}}, 2999)}}})
}

func TestRightOfNames(t *testing.T) {
	for _, name := range []string{"", "a", " ", "(a b)", "1", "if", "\x00", "\xff\xfe", "\"", "a\nb", "\xed\xa0\x80", strings.Repeat("a", 99), strings.Repeat("a", 100), strings.Repeat("\xff", 100), strings.Repeat("λ", 50), strings.Repeat("\x00", 100)} {
		named(t, name, right)
	}
	for _, name := range []string{strings.Repeat("a", 101), strings.Repeat("\xff", 101), strings.Repeat("λ", 51), strings.Repeat("λ", 50) + "a", strings.Repeat("\x00", 101), strings.Repeat("a", 1<<16), strings.Repeat("a", 1<<24)} {
		named(t, name, wrong)
	}
}

// named asks about programs in which each procedure, or global, in turn has a name.
func named(t *testing.T, name string, asked func(t *testing.T, name string, c api.Code)) {
	t.Helper()
	asked(t, short(name), api.Code{Globals: []string{name}})
	asked(t, short(name), api.Code{Procs: []api.Proc{{Name: name}}})
	for i := range full().Globals {
		c := full()
		c.Globals[i] = name
		asked(t, short(name), c)
	}
	for i := range full().Procs {
		c := full()
		c.Procs[i].Name = name
		asked(t, short(name), c)
	}
}
