package reader_test

import (
	"math/rand/v2"
	"slices"
	"strings"
	"testing"

	"distaff/api"
	"distaff/datum"
	"distaff/reader"
)

// P1, P2, and what holds for all layers.

// texts is texts of many kinds, some of them with a fault.
func texts() []string {
	l := []string{
		"", " ", "a", "(a . (b c))", "(a . (b . (c . ())))", "'(a ,b ,@(c . d))", "#(1 2.5 #t #\\a \"b\")", "(1 . ())", "''a 'a", "(340282366920938463463374607431768211456 -1 . (4294967296))",
		"a b c d e", "(a b c d e)", "(((a) (b)) . ((c) (d)))", "(a . 'b)", "(a . ''(b . c))", "(quote a) 'a \"quote\"", strings.Repeat("(1 2 3)", 200), "(" + strings.Repeat("1 ", 1000) + ". (" + strings.Repeat("2 ", 1000) + "))", "#(" + strings.Repeat("(1 . (2))", 200) + ")",
	}
	for text := range nests() {
		l = append(l, text, text+" "+text)
	}
	for _, f := range flaws() {
		l = append(l, f.text, "(1 2) "+f.text)
	}
	slices.Sort(l)
	return l
}

// copied is the same data in other memory.
func copied(l []api.Datum) []api.Datum {
	l = slices.Clone(l)
	for i := range l {
		l[i].Num.I.Limbs = slices.Clone(l[i].Num.I.Limbs)
		l[i].Items = copied(l[i].Items)
	}
	return l
}

// spoil writes over all memory of data, spare room included.
func spoil(l []api.Datum) {
	l = l[:cap(l)]
	for i := range l {
		limbs := l[i].Num.I.Limbs[:cap(l[i].Num.I.Limbs)]
		for k := range limbs {
			limbs[k] = ^limbs[k]
		}
		spoil(l[i].Items)
		l[i] = api.Datum{Kind: 9, N: -1, Text: "spoilt"}
	}
}

func TestArgumentsStay(t *testing.T) {
	for _, text := range texts() {
		b := append([]byte(text), "( spare \" room"...)
		want := slices.Clone(b)
		if reader.Read(b[:len(text)]); !slices.Equal(b, want) {
			t.Errorf("%q is changed", short(text))
		}
	}
}

func TestArgumentsAreNotKept(t *testing.T) {
	for _, text := range texts() {
		b := []byte(text)
		got, fault := reader.Read(b)
		want := copied(got)
		for i := range b {
			b[i] = '#'
		}
		if !slices.EqualFunc(got, want, equal) {
			t.Errorf("%q is kept", short(text))
		}
		if again, other := reader.Read([]byte(text)); other != fault || !slices.EqualFunc(again, want, equal) {
			t.Errorf("%q: another answer later", short(text))
		}
	}
}

// P2: what is done with an answer isn't seen in another one.
func TestAnswersComeAgain(t *testing.T) {
	for _, text := range texts() {
		got, fault := reader.Read([]byte(text))
		want := copied(got)
		second, _ := reader.Read([]byte(text))
		if spoil(got); !slices.EqualFunc(second, want, equal) {
			t.Errorf("%q: two answers share memory", short(text))
		}
		if third, other := reader.Read([]byte(text)); other != fault || !slices.EqualFunc(third, want, equal) {
			t.Errorf("%q: another answer later", short(text))
		}
	}
}

// gather is all lists of data, each with its spare room.
func gather(l []api.Datum, items [][]api.Datum, limbs [][]uint32) ([][]api.Datum, [][]uint32) {
	items = append(items, l[:cap(l)])
	for _, d := range l {
		limbs = append(limbs, d.Num.I.Limbs[:cap(d.Num.I.Limbs)])
		items, limbs = gather(d.Items, items, limbs)
	}
	return items, limbs
}

func TestListsOfAnAnswerAreApart(t *testing.T) {
	for _, text := range texts() {
		l, _ := reader.Read([]byte(text))
		items, limbs := gather(l, nil, nil)
		for i := range items {
			for k := range items[i] {
				items[i][k] = api.Datum{N: i}
			}
		}
		for i := range limbs {
			for k := range limbs[i] {
				limbs[i][k] = uint32(i)
			}
		}
		for i := range items {
			if slices.ContainsFunc(items[i], func(d api.Datum) bool { return d.N != i }) {
				t.Errorf("%q: two lists share memory", short(text))
			}
		}
		for i := range limbs {
			if slices.ContainsFunc(limbs[i], func(limb uint32) bool { return limb != uint32(i) }) {
				t.Errorf("%q: two numbers share memory", short(text))
			}
		}
	}
}

// Beside a fault there are no data, and without one there is no place.
func TestFaultsStandAlone(t *testing.T) {
	for _, text := range texts() {
		l, fault := reader.Read([]byte(text))
		if fault.Err != api.OK && len(l) != 0 || fault.Err == api.OK && fault.At != 0 {
			t.Errorf("%q: %s, %v", short(text), told(l), fault)
		}
	}
}

// isSound complains, if a call doesn't answer as all calls do: data that can be, or a fault at a byte of the text.
func isSound(t *testing.T, b []byte) {
	t.Helper()
	l, fault := reader.Read(b)
	switch {
	case fault.Err == api.OK && fault.At == 0:
		for _, d := range l {
			if !datum.Right(d) {
				t.Errorf("%q: a datum that can't be: %s", short(string(b)), told(l))
			}
		}
	case len(l) != 0 || fault.At < 0 || fault.At >= len(b) || fault.Err < api.ErrRead || fault.Err > api.ErrLong:
		t.Errorf("%q: %s, %v", short(string(b)), told(l), fault)
	}
}

// P1
func TestCallsOfAnyBytesEnd(t *testing.T) {
	isSound(t, nil)
	isSound(t, []byte{})
	for i := range 1 << 16 {
		isSound(t, []byte{byte(i >> 8), byte(i)})
		isSound(t, []byte{'"', byte(i >> 8), byte(i), '"'})
		isSound(t, []byte{'"', '\\', byte(i >> 8), byte(i)})
		isSound(t, []byte{'#', '\\', byte(i >> 8), byte(i)})
		isSound(t, []byte{'#', byte(i >> 8), '(', byte(i)})
	}
	random := rand.New(rand.NewPCG(1, 2))
	for i := range 4000 {
		b := make([]byte, random.IntN(1<<(i%16)))
		for k := range b {
			b[k] = byte(random.IntN(128 << (i % 2)))
		}
		isSound(t, b)
	}
	for c := range 256 {
		for _, n := range []int{1, 2, 3, 59, 60, 61, 400, 19999, 20000, 20001, 1 << 20} {
			isSound(t, []byte(strings.Repeat(string([]byte{byte(c)}), n)))
			isSound(t, []byte(strings.Repeat("("+string([]byte{byte(c)}), n)))
		}
	}
}
