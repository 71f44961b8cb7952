package code_test

import (
	"bytes"
	"math"
	"math/rand/v2"
	"slices"
	"strings"
	"testing"
	"unsafe"

	"distaff/api"
	"distaff/code"
)

// P1, P2, and what holds for all layers.

// roomyData is the same data in other memory, with spare room behind each list.
func roomyData(l []api.Datum) []api.Datum {
	l = append(slices.Clone(l), api.Datum{Kind: 9, N: 3735928559}, api.Datum{Text: "spare"})[:len(l)]
	for i := range l {
		limbs := l[i].Num.I.Limbs
		l[i].Num.I.Limbs = slices.Concat(limbs, []uint32{3735928559, 0, math.MaxUint32})[:len(limbs)]
		l[i].Items = roomyData(l[i].Items)
	}
	return l
}

// roomy is the same of a program.
func roomy(c api.Code) api.Code {
	c.Procs = append(slices.Clone(c.Procs), api.Proc{Name: "spare"}, api.Proc{Params: -1})[:len(c.Procs)]
	for i := range c.Procs {
		p := &c.Procs[i]
		p.Code = append(slices.Clone(p.Code), api.Instr{Op: -1}, api.Instr{B: 77})[:len(p.Code)]
	}
	c.Consts = roomyData(c.Consts)
	c.Globals = append(slices.Clone(c.Globals), "spare", "room")[:len(c.Globals)]
	return c
}

// wholeData is data with the spare room of their lists as part of them, in other memory.
func wholeData(l []api.Datum) []api.Datum {
	l = slices.Clone(l[:cap(l)])
	for i := range l {
		l[i].Num.I.Limbs = slices.Clone(l[i].Num.I.Limbs[:cap(l[i].Num.I.Limbs)])
		l[i].Items = wholeData(l[i].Items)
	}
	return l
}

// whole is the same of a program.
func whole(c api.Code) api.Code {
	c.Procs = slices.Clone(c.Procs[:cap(c.Procs)])
	for i := range c.Procs {
		c.Procs[i].Code = slices.Clone(c.Procs[i].Code[:cap(c.Procs[i].Code)])
	}
	c.Consts = wholeData(c.Consts)
	c.Globals = slices.Clone(c.Globals[:cap(c.Globals)])
	return c
}

// spoilData writes over all memory of data, spare room included.
func spoilData(l []api.Datum) {
	l = l[:cap(l)]
	for i := range l {
		limbs := l[i].Num.I.Limbs[:cap(l[i].Num.I.Limbs)]
		for k := range limbs {
			limbs[k] = ^limbs[k]
		}
		spoilData(l[i].Items)
		l[i] = api.Datum{Kind: 9, N: -1, Text: "spoilt"}
	}
}

// spoil is the same of a program.
func spoil(c api.Code) {
	procs := c.Procs[:cap(c.Procs)]
	for i := range procs {
		instrs := procs[i].Code[:cap(procs[i].Code)]
		for k := range instrs {
			instrs[k] = api.Instr{Op: -9, A: -9, B: -9}
		}
		procs[i] = api.Proc{Name: "spoilt", Params: -9}
	}
	spoilData(c.Consts)
	globals := c.Globals[:cap(c.Globals)]
	for i := range globals {
		globals[i] = "spoilt"
	}
}

// asked is what all calls answer of a program.
func asked(t *testing.T, c api.Code) []byte {
	t.Helper()
	b, e := code.Bytes(c)
	if code.Right(c) != (e == api.OK) || !code.Same(c, c) {
		t.Errorf("%s: %d", told(c), e)
	}
	for op := range 23 {
		takes, puts := code.Effect(api.Instr{Op: op, A: 1, B: 2}, c)
		b = append(b, byte(takes), byte(puts))
	}
	return b
}

func TestProgramsStay(t *testing.T) {
	for _, c := range programs() {
		given, other := roomy(c), roomy(c)
		want := whole(given)
		asked(t, given)
		if same(t, "the same", given, other, true); !equal(whole(given), want) || !equal(whole(other), want) {
			t.Errorf("%s is changed", told(c))
		}
	}
	for _, d := range wrongData() {
		c := roomy(api.Code{Consts: []api.Datum{d}})
		want := whole(c)
		if asked(t, c); !equal(whole(c), want) {
			t.Errorf("%s is changed", told(c))
		}
	}
}

func TestProgramsAreNotKept(t *testing.T) {
	for i, c := range programs() {
		c = roomy(c)
		got := asked(t, c)
		want := slices.Clone(got)
		if spoil(c); !bytes.Equal(got, want) {
			t.Errorf("%d is kept", i)
		}
		if !bytes.Equal(asked(t, programs()[i]), want) {
			t.Errorf("%d: another answer later", i)
		}
	}
}

func TestBytesStay(t *testing.T) {
	for _, c := range programs() {
		b := written(c, printed(c))
		for n := range len(b) + 1 {
			given := append(slices.Clone(b[:n]), "spare room"...)
			want := slices.Clone(given)
			if code.Read(given[:n]); !bytes.Equal(given, want) {
				t.Fatalf("%q is changed", short(string(b)))
			}
			if n > 1000 {
				break
			}
		}
	}
}

func TestBytesAreNotKept(t *testing.T) {
	for _, c := range programs() {
		b := written(c, printed(c))
		given := append(slices.Clone(b), "spare room"...)[:len(b)]
		got, _ := code.Read(given)
		for i := range given[:cap(given)] {
			given[:cap(given)][i] ^= 0x55
		}
		reads(t, "later", b, got)
		if !equal(got, c) {
			t.Errorf("%q is kept", short(string(b)))
		}
	}
}

// P2: what is done with an answer isn't seen in what was handed in, nor in another answer.
func TestAnswersAreApart(t *testing.T) {
	for _, c := range programs() {
		c = roomy(c)
		given := whole(c)
		b, _ := code.Bytes(c)
		second, _ := code.Bytes(c)
		want := slices.Clone(second[:cap(second)])
		for i := range b[:cap(b)] {
			b[:cap(b)][i] ^= 0x55
		}
		if !bytes.Equal(second[:cap(second)], want) || !equal(whole(c), given) {
			t.Errorf("%s: bytes lie where others lie", told(c))
		}
		read, _ := code.Read(second)
		again, _ := code.Read(second)
		wanted := whole(again)
		if spoil(read); !equal(whole(again), wanted) || !bytes.Equal(second[:cap(second)], want) {
			t.Errorf("%s: two programs share memory", told(c))
		}
		reads(t, "a third time", second, again)
	}
}

// lists is all lists of a program, each with its spare room.
type lists struct {
	procs  [][]api.Proc
	instrs [][]api.Instr
	items  [][]api.Datum
	limbs  [][]uint32
	names  [][]string
}

func (x *lists) gather(c api.Code) {
	x.procs = append(x.procs, c.Procs[:cap(c.Procs)])
	for _, p := range c.Procs {
		x.instrs = append(x.instrs, p.Code[:cap(p.Code)])
	}
	x.gatherData(c.Consts)
	x.names = append(x.names, c.Globals[:cap(c.Globals)])
}

func (x *lists) gatherData(l []api.Datum) {
	x.items = append(x.items, l[:cap(l)])
	for _, d := range l {
		x.limbs = append(x.limbs, d.Num.I.Limbs[:cap(d.Num.I.Limbs)])
		x.gatherData(d.Items)
	}
}

// apart asks whether no two of some lists share memory: in each stands where it is, and that is to be there still.
func apart[T any](l [][]T, mark func(i int) T, is func(x T, i int) bool) bool {
	for i := range l {
		for k := range l[i] {
			l[i][k] = mark(i)
		}
	}
	for i := range l {
		if slices.ContainsFunc(l[i], func(x T) bool { return !is(x, i) }) {
			return false
		}
	}
	return true
}

func TestListsOfAnAnswerAreApart(t *testing.T) {
	for _, c := range append(programs(), api.Code{Procs: slices.Repeat(full().Procs, 20), Consts: slices.Repeat(full().Consts, 20), Globals: full().Globals}) {
		got, _ := code.Read(written(c, printed(c)))
		if !equal(got, c) {
			t.Fatalf("%s: %s", told(c), told(got))
		}
		var x lists
		x.gather(got)
		ok := apart(x.limbs, func(i int) uint32 { return uint32(i) }, func(n uint32, i int) bool { return n == uint32(i) })
		ok = ok && apart(x.items, func(i int) api.Datum { return api.Datum{N: i} }, func(d api.Datum, i int) bool { return d.N == i })
		ok = ok && apart(x.instrs, func(i int) api.Instr { return api.Instr{A: i} }, func(x api.Instr, i int) bool { return x.A == i })
		if !ok {
			t.Errorf("%s: two lists share memory", told(c))
		}
	}
}

// texts is where the bytes of all texts of a program lie, but for empty ones.
func texts(c api.Code) []*byte {
	var l []*byte
	add := func(s string) {
		if len(s) > 0 {
			l = append(l, unsafe.StringData(s))
		}
	}
	for _, p := range c.Procs {
		add(p.Name)
	}
	for _, s := range c.Globals {
		add(s)
	}
	var addData func(l []api.Datum)
	addData = func(l []api.Datum) {
		for _, d := range l {
			add(d.Text)
			addData(d.Items)
		}
	}
	addData(c.Consts)
	return l
}

func TestTextsAreNewMemory(t *testing.T) {
	for _, c := range programs() {
		b := written(c, printed(c))
		got, _ := code.Read(b)
		for _, p := range texts(got) {
			for i := range b {
				if p == &b[i] {
					t.Errorf("%s: a text lies in the bytes that were handed in", told(c))
				}
			}
		}
	}
}

func TestAnswersComeAgain(t *testing.T) {
	for _, c := range append(programs(), others()...) {
		want := asked(t, c)
		b, e := code.Bytes(c)
		for range 5 {
			if !bytes.Equal(asked(t, c), want) {
				t.Fatalf("%s: another answer", told(c))
			}
			if e == api.OK {
				reads(t, "again", b, c)
			}
		}
	}
}

// oddPrograms is programs that aren't RIGHT, of many kinds.
func oddPrograms() []api.Code {
	ring := api.Datum{Kind: api.DList, Items: make([]api.Datum, 2)}
	ring.Items[0], ring.Items[1] = ring, ring
	alone := api.Datum{Kind: api.DVec, Items: make([]api.Datum, 1)}
	alone.Items[0] = alone
	wide, deep := api.Datum{}, api.Datum{}
	for range 70 {
		wide = api.Datum{Kind: api.DList, Items: []api.Datum{wide, wide, wide}}
	}
	for range 1 << 16 {
		deep = api.Datum{Kind: api.DList, Items: []api.Datum{deep}}
	}
	l := []api.Code{
		{Consts: []api.Datum{ring}}, {Consts: []api.Datum{alone, ring, wide}}, {Consts: []api.Datum{deep}}, {Consts: slices.Repeat([]api.Datum{ring}, 100)}, {Consts: make([]api.Datum, 1<<18)}, {Consts: []api.Datum{{Kind: -7, Text: "\xff", Num: api.Num{Float: true, F: math.NaN(), I: api.Int{Neg: true, Limbs: []uint32{0}}}}}},
		{Globals: make([]string, 1<<20)}, {Globals: []string{strings.Repeat("\xff", 1<<24)}}, {Procs: []api.Proc{{Name: strings.Repeat("a", 1<<24)}}}, {Procs: make([]api.Proc, 1<<18)},
		{Procs: []api.Proc{{Code: make([]api.Instr, 1<<22)}}}, {Procs: slices.Repeat([]api.Proc{{Code: make([]api.Instr, 1<<22)}}, 40)}, {Procs: slices.Repeat([]api.Proc{{Code: make([]api.Instr, 40000)}}, 4001)},
	}
	for _, n := range []int{-1, math.MinInt, math.MaxInt, 1 << 24, -1 << 24, 1 << 62} {
		l = append(l, api.Code{Procs: []api.Proc{{Params: n, Slots: n, Depth: n, Free: n, Code: []api.Instr{{Op: n, A: n, B: n}}}}})
		for op := range 23 {
			l = append(l, api.Code{Procs: []api.Proc{{Free: n, Code: []api.Instr{{Op: op, A: n, B: n}}}}})
		}
	}
	for _, d := range wrongData() {
		l = append(l, api.Code{Consts: []api.Datum{d}})
	}
	return l
}

// P1
func TestCallsOfAnyProgramsEnd(t *testing.T) {
	l := oddPrograms()
	for i, c := range l {
		wrong(t, "of no call", c)
		code.Same(c, c)
		code.Same(c, l[(i+1)%len(l)])
		code.Same(api.Code{}, c)
	}
}

func TestEffectOfAnyInstructionEnds(t *testing.T) {
	odd := []int{-1, -2, 0, 1, 21, 22, math.MinInt, math.MaxInt, math.MaxInt - 1, math.MinInt / 2, math.MaxInt/2 + 1, 1 << 24}
	l := oddPrograms()
	for _, c := range l {
		for op := -1; op < 24; op++ {
			for _, a := range odd {
				code.Effect(api.Instr{Op: op, A: a, B: -a}, c)
				code.Effect(api.Instr{Op: a, A: op, B: a}, c)
			}
		}
	}
}

func TestReadOfAnyBytesEnds(t *testing.T) {
	random := rand.New(rand.NewPCG(10, 3))
	for range 20000 {
		b := make([]byte, random.IntN(200))
		kinds := []int{2, 4, 40, 256}[random.IntN(4)]
		for i := range b {
			b[i] = byte(random.IntN(kinds))
		}
		compare(t, b)
	}
	for _, first := range []byte{0, 1, 15, 255} {
		b := make([]byte, 1<<22)
		b[0], b[1], b[2] = first, 0x0f, 0xa0
		refuses(t, "many bytes", b)
		b[0], b[1], b[2], b[4], b[5] = 0, 0, 0, 0x0f, 0xa0
		refuses(t, "many bytes", b)
		for i := range b {
			b[i] = byte(random.IntN(256))
		}
		refuses(t, "many bytes", b)
	}
}
