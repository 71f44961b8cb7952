package code_test

import (
	"math/rand/v2"
	"slices"
	"testing"

	"distaff/api"
	"distaff/code"
	"distaff/reader"
)

// Read is held against the document's own words: the Code whose Bytes these are.

// taking takes bytes apart without asking for any bound; what it lacks makes it panic.
type taking struct{ b []byte }

func (x *taking) take(n int) []byte {
	out := x.b[:n:n]
	x.b = x.b[n:]
	return out
}

func (x *taking) num() int {
	b := x.take(3)
	return int(b[0])<<16 + int(b[1])<<8 + int(b[2])
}

func (x *taking) text() string {
	return string(x.take(x.num()))
}

func (x *taking) code() api.Code {
	var c api.Code
	for range x.num() {
		l, _ := reader.Read([]byte(x.text()))
		c.Consts = append(c.Consts, l...)
	}
	for range x.num() {
		c.Globals = append(c.Globals, x.text())
	}
	for range x.num() {
		p := api.Proc{Name: x.text(), Params: x.num(), Rest: x.num() > 0, Slots: x.num(), Depth: x.num(), Free: x.num()}
		for range x.num() {
			p.Code = append(p.Code, api.Instr{Op: x.num(), A: x.num(), B: x.num()})
		}
		c.Procs = append(c.Procs, p)
	}
	return c
}

// whose is the Code whose Bytes these are, and false, if there is none.
func whose(b []byte) (c api.Code, ok bool) {
	defer func() {
		if recover() != nil {
			c, ok = api.Code{}, false
		}
	}()
	x := taking{b}
	c = x.code()
	if again, e := code.Bytes(c); e != api.OK || !slices.Equal(again, b) {
		return api.Code{}, false
	}
	return c, true
}

// compare complains, if Read answers something else than the Code whose Bytes these are, and answers whether there is one.
func compare(t *testing.T, b []byte) bool {
	t.Helper()
	c, e := code.Read(b)
	want, ok := whose(b)
	if (e == api.OK) != ok || !ok && e != api.ErrCode || !equal(c, want) {
		t.Fatalf("%q: %d, %s, not %v, %s", short(string(b)), e, told(c), ok, told(want))
	}
	return ok
}

func TestReadOfAllShortBytes(t *testing.T) {
	there := map[int]int{}
	for _, kinds := range []struct{ bytes, most int }{{2, 18}, {3, 11}} {
		for n := range kinds.most + 1 {
			b := make([]byte, n)
			for more := true; more; more = next(b, byte(kinds.bytes)) {
				if compare(t, b) {
					there[n]++
				}
			}
		}
	}
	if there[9] == 0 || there[12] == 0 || there[8] > 0 {
		t.Errorf("programs by how many bytes they have: %v", there)
	}
}

// next is the next one of all lists of bytes that are below some kinds; false behind the last one.
func next(b []byte, kinds byte) bool {
	for i := range b {
		if b[i]++; b[i] < kinds {
			return true
		}
		b[i] = 0
	}
	return false
}

// chance makes programs by chance.
type chance struct {
	*rand.Rand
	atoms []api.Datum
}

func newChance(seed uint64) chance {
	return chance{rand.New(rand.NewPCG(10, seed)), constants()}
}

func (r chance) num() int {
	return []int{0, 1, 2, r.IntN(22), r.IntN(300), r.IntN(api.MaxNum + 1), api.MaxNum}[r.IntN(7)]
}

func (r chance) text(most int) string {
	b := make([]byte, r.IntN(most+1))
	for i := range b {
		b[i] = byte(r.IntN(256))
	}
	return string(b)
}

func (r chance) datum(deep int) api.Datum {
	if deep == 0 || r.IntN(3) > 0 {
		return r.atoms[r.IntN(len(r.atoms))]
	}
	var items []api.Datum
	for range r.IntN(4) {
		items = append(items, r.datum(deep-1))
	}
	if last := len(items) - 1; last > 0 && items[last].Kind != api.DList && items[last].Kind != api.DDot && r.IntN(2) > 0 {
		return api.Datum{Kind: api.DDot, Items: items}
	}
	return api.Datum{Kind: []int{api.DList, api.DVec}[r.IntN(2)], Items: items}
}

func (r chance) proc() api.Proc {
	p := api.Proc{Name: r.text(8), Params: r.num(), Rest: r.IntN(2) > 0, Slots: r.num(), Depth: r.num(), Free: r.num()}
	for range r.IntN(5) {
		p.Code = append(p.Code, api.Instr{Op: r.num(), A: r.num(), B: r.num()})
	}
	return p
}

func (r chance) code() api.Code {
	var c api.Code
	for range r.IntN(4) {
		c.Procs = append(c.Procs, r.proc())
	}
	for range r.IntN(4) {
		c.Consts = append(c.Consts, r.datum(3))
	}
	for range r.IntN(4) {
		c.Globals = append(c.Globals, r.text(8))
	}
	return c
}

// spoilt is some bytes, of which a few are others, or gone, or new.
func (r chance) spoilt(b []byte) []byte {
	b = slices.Clone(b)
	for range 1 + r.IntN(2) {
		at := r.IntN(len(b))
		switch r.IntN(6) {
		case 0:
			b[at] = byte(r.IntN(256))
		case 1:
			b[at] += byte(1 + 2*r.IntN(2)*127) // one more, or one less
		case 2:
			b = slices.Delete(b, at, min(len(b), at+1+r.IntN(3)))
		case 3:
			b = slices.Insert(b, at, slices.Repeat([]byte{0}, 1+r.IntN(3))...)
		case 4:
			b = slices.Insert(b, at, b[r.IntN(at+1):at]...)
		case 5:
			b[at] = " ;()'\"#.0a"[r.IntN(10)]
		}
		if len(b) == 0 {
			break
		}
	}
	return b
}

func TestReadOfSpoiltBytes(t *testing.T) {
	r := newChance(2)
	there, not := 0, 0
	for range 3000 {
		c := r.code()
		b, e := code.Bytes(c)
		if e != api.OK || !slices.Equal(b, written(c, printed(c))) || !compare(t, b) {
			t.Fatalf("%d, %q, %s", e, short(string(b)), told(c))
		}
		for range 10 {
			if compare(t, r.spoilt(b)) {
				there++
			} else {
				not++
			}
		}
	}
	if there < 1000 || not < 1000 {
		t.Errorf("%d bytes of programs, %d of none", there, not)
	}
}

// Of two programs made by chance the bytes are the same, if the programs are.
func TestSameIsThatOfBytes(t *testing.T) {
	r := newChance(1)
	alike := 0
	for range 20000 {
		a, b := api.Code{Consts: []api.Datum{r.datum(2)}, Globals: []string{r.text(1)}}, api.Code{Consts: []api.Datum{r.datum(2)}, Globals: []string{r.text(1)}}
		if r.IntN(2) > 0 {
			b.Globals = a.Globals
		}
		x, _ := code.Bytes(a)
		y, _ := code.Bytes(b)
		same(t, short(string(x)), a, b, slices.Equal(x, y))
		if slices.Equal(x, y) {
			alike++
		}
	}
	if alike == 0 {
		t.Error("no two were the same")
	}
}
