package heap_test

import (
	"reflect"
	"slices"
	"testing"

	"distaff/api"
	"distaff/heap"
	"distaff/word"
)

// The section Types: the fields of a Heap are hidden; the numbers that the chapter names.
func TestTypes(t *testing.T) {
	kind := reflect.TypeFor[heap.Heap]()
	for i := range kind.NumField() {
		if kind.Field(i).IsExported() {
			t.Errorf("the field %s isn't hidden", kind.Field(i).Name)
		}
	}
	if api.MaxObject != maxObject || word.Single(5) != nothingYet {
		t.Errorf("at most %d fields, nothing yet is %X", api.MaxObject, word.Single(5))
	}
}

// The section Types: the HEAD of an OBJECT, bit by bit.
func TestHeadByItsBits(t *testing.T) {
	for _, c := range []struct {
		kind, pins, n int
		want          api.Word
	}{
		{0, 0, 0, 0b110},
		{1, 0, 0, 0b00001_110},
		{31, 0, 0, 0b11111_110},
		{0, 1, 0, 0b001_00000_110},
		{0, 7, 0, 0b111_00000_110},
		{0, 0, 1, 0b1_000_00000_110},
		{0, 0, 240, 0b11110000_000_00000_110},
		{21, 5, 170, 0b10101010_101_10101_110},
		{10, 2, 85, 0b1010101_010_01010_110},
		{31, 7, 240, 0b11110000_111_11111_110},
	} {
		h := heap.New(1)
		w := made(t, h, c.kind, c.n)
		for range c.pins {
			h.Pin(w)
		}
		if got, _ := h.Arena().Get(word.Value(w)); got != c.want {
			t.Errorf("the kind %d, %d times pinned, with %d fields: %b, not %b", c.kind, c.pins, c.n, got, c.want)
		}
	}
}

// The section Types: each KIND, PINNED each number of times, of each N: the HEAD, and the FIELDS behind it, and no other word.
func TestObjectInItsArena(t *testing.T) {
	for kind := range kinds {
		for n := range maxObject + 1 {
			h := heap.New(1)
			want := make([]api.Word, blockWords)
			w := made(t, h, kind, n)
			if word.Kind(w) != placeTag || word.Value(w) != 0 {
				t.Fatalf("the first object is told by %X", w)
			}
			for i := range n {
				want[1+i] = unset(kind)
			}
			for pins := range mostPins + 1 {
				want[0] = headOf(kind, pins, n)
				if got := look(h).words; !slices.Equal(got, want) {
					t.Fatalf("the kind %d, %d times pinned, with %d fields: %X", kind, pins, n, got)
				}
				h.Pin(w)
			}
		}
	}
}

// The section Types: an OBJECT is told by the Place of its HEAD, wherever that is, and its FIELDS are one behind the other.
func TestToldByThePlaceOfTheHead(t *testing.T) {
	h := heap.New(3)
	for number, n := range []int{3, 0, 11, 15, 200, 20, 15, 7, 240, 1} {
		w := made(t, h, number, n)
		if word.Kind(w) != placeTag {
			t.Fatalf("the object %d is told by %X", number, w)
		}
		at := word.Value(w)
		if got, _ := h.Arena().Get(at); got != headOf(number, 0, n) {
			t.Errorf("the object %d: at its place %X", number, got)
		}
		for i := range n {
			v := laid(uint64(1000*number+i), 0)
			h.Set(w, i, v)
			if got, _ := h.Arena().Get(at + 1 + i); got != v {
				t.Errorf("the object %d: field %d is %X in its arena", number, i, got)
			}
		}
	}
}

// The section Types: FIELDS are told by what stands in the Arena.
func TestFieldsAreTheArenasWords(t *testing.T) {
	h := heap.New(1)
	w := made(t, h, 2, 3)
	for i := range 3 {
		h.Arena().Set(word.Value(w)+1+i, api.Word(i+100))
	}
	is(t, h, w, 2, 100, 101, 102)
	h.Arena().Set(word.Value(w), headOf(30, 6, 2))
	is(t, h, w, 30, 100, 101)
	if !h.Pin(w) || h.Pin(w) {
		t.Error("it was pinned six times")
	}
}

// The section Types: TAG 7, and above it the place of the OBJECT that stands for it.
func TestHeadOfWhatWasMoved(t *testing.T) {
	for _, c := range []struct {
		blocks, n int
		want      api.Word // of the elder's HEAD
	}{
		{2, 0, 256*8 + 7}, {2, 16, 7}, {3, 15, 512*8 + 7}, {4, 240, 512*8 + 7}, {maxBlocks, 3, 1048320*8 + 7},
	} {
		h := heap.New(c.blocks)
		w := made(t, h, 9, c.n)
		to := moved(t, h, w)
		if got, _ := h.Arena().Get(word.Value(w)); got != c.want || got != laid(uint64(word.Value(to)), movedTag) {
			t.Errorf("of %d blocks, with %d fields, moved to %X: the head %X", c.blocks, c.n, to, got)
		}
	}
	h := heap.New(2)
	h.Arena().Fresh(19)
	w := made(t, h, 9, 2)
	moved(t, h, w)
	if got, _ := h.Arena().Get(word.Value(w)); got != (256+19)*8+7 {
		t.Errorf("behind 19 words: the head %X", got)
	}
}

// The section Types: RAW kinds are those from 16 to 31.
func TestRaw(t *testing.T) {
	for _, kind := range ends() {
		if got := heap.Raw(kind); got != (kind >= 16 && kind <= 31) {
			t.Errorf("Raw of %d: %t", kind, got)
		}
	}
	for kind := -300; kind < 300; kind++ {
		if got := heap.Raw(kind); got != (kind >= 16 && kind <= 31) {
			t.Errorf("Raw of %d: %t", kind, got)
		}
	}
	if heap.Raw(api.KindStack) {
		t.Error("a STACK is raw")
	}
}

// The section Examples.
func TestExamples(t *testing.T) {
	h := heap.New(1)
	w, ok := h.Make(0, 2)
	if !ok {
		t.Error("Make of kind 0 with two fields: false")
	}
	for i := range 2 {
		if v, e := h.Get(w, i); v != word.Single(5) || e != 0 {
			t.Errorf("field %d: %X and %d", i, v, e)
		}
	}
}
