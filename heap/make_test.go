package heap_test

import (
	"math"
	"slices"
	"testing"

	"distaff/api"
	"distaff/arena"
	"distaff/heap"
	"distaff/word"
)

// P15.1, New: a new Arena of so many blocks, as layer 14 counts them.
func TestNew(t *testing.T) {
	for _, blocks := range append(ends(), 1, 2, 3, 17, 255, maxBlocks-1) {
		h, want := heap.New(blocks), min(max(blocks, 1), maxBlocks)
		a := h.Arena()
		if a.Blocks() != want || a.Blocks() != arena.New(blocks).Blocks() || a.Empty() != want {
			t.Errorf("New of %d: %d blocks, %d empty", blocks, a.Blocks(), a.Empty())
		}
	}
	for _, w := range look(heap.New(5)).words {
		if w != 0 {
			t.Fatalf("a new heap has the word %X", w)
		}
	}
}

// P15.1, Arena: the one of that heap, each time the same; what is done to it is done to the heap.
func TestArena(t *testing.T) {
	h, other := heap.New(2), heap.New(2)
	a := h.Arena()
	if a == other.Arena() {
		t.Error("two heaps have one arena")
	}
	w := made(t, h, 4, 3)
	to := moved(t, h, w)
	h.Pin(to)
	if h.Arena() != a || h.Arena() != h.Arena() {
		t.Error("another arena")
	}
	if at, ok := a.Alloc(1); at != 4 || !ok {
		t.Errorf("behind four words: %d %t", at, ok)
	}
	if w, ok := h.Make(4, 3); w != word.Place(5) || !ok {
		t.Errorf("behind five words: %X %t", w, ok)
	}
	if other.Arena().Empty() != 2 {
		t.Error("the other heap's arena isn't empty any more")
	}
}

// P15.1, Make: of each KIND and of each number of FIELDS from 0 to MaxObject: that KIND, that N, not PINNED, all FIELDS as they should be.
func TestMake(t *testing.T) {
	for kind := range kinds {
		for n := range maxObject + 1 {
			h := heap.New(1)
			w := made(t, h, kind, n)
			is(t, h, w, kind, slices.Repeat([]api.Word{unset(kind)}, n)...)
			if h.Pinned(w) || h.Unpin(w) {
				t.Errorf("the kind %d, with %d fields: it is pinned", kind, n)
			}
			if to, ok := h.Moved(w); to != 0 || ok {
				t.Errorf("the kind %d, with %d fields: it was moved to %X", kind, n, to)
			}
		}
	}
}

// P15.1, Make: 0 and false of other KINDS and other numbers, and then nothing is changed.
func TestMakeRefuses(t *testing.T) {
	h := heap.New(3)
	w := made(t, h, 3, 5)
	before := look(h)
	wrong := func(kind, n int) {
		if w, ok := h.Make(kind, n); w != 0 || ok {
			t.Errorf("Make of kind %d with %d fields: %X %t", kind, n, w, ok)
		}
	}
	right := []int{0, 1, 15, 16, 31}
	for _, kind := range append(ends(), -1, 32, 33, 63, 64, math.MinInt+16) {
		if kind < 0 || kind > 31 {
			for _, n := range append(ends(), sizes()...) {
				wrong(kind, n)
			}
		}
	}
	for _, n := range append(ends(), -1, 241, 255, 256, 257, math.MinInt+16) {
		if n < 0 || n > 240 {
			for _, kind := range right {
				wrong(kind, n)
			}
		}
	}
	before.same(t, h)
	if next := made(t, h, 3, 5); next != word.Place(word.Value(w)+6) {
		t.Errorf("the next object is at %d", word.Value(next))
	}
}

// P15.1, Make: where the Arena's Alloc of n and one words says, in all orders of a few numbers.
func TestMakeAsAlloc(t *testing.T) {
	list := []int{0, 7, 14, 15, 16, 127, 240}
	for number := range len(list) * len(list) * len(list) * len(list) {
		h, a := heap.New(2), arena.New(2)
		for range 4 {
			n := list[number%len(list)]
			number /= len(list)
			w, ok := h.Make(n%kinds, n)
			at, there := a.Alloc(n + 1)
			if ok != there || ok && w != word.Place(at) || !ok && w != 0 {
				t.Fatalf("Make with %d fields: %X %t, not at %d", n, w, ok, at)
			}
		}
		for block := range 2 {
			if h.Arena().Free(block) != a.Free(block) {
				t.Fatalf("%d lines of block %d are free, not %d", h.Arena().Free(block), block, a.Free(block))
			}
		}
	}
}

// P15.1, Make: of each number of FIELDS, till the Arena is full; then 0 and false, and what is there stays as it is.
func TestMakeTillFull(t *testing.T) {
	const blocks = 3
	for n := range maxObject + 1 {
		h := heap.New(blocks)
		made(t, h, n%kinds, n)
		for range blockWords/(n+1)*blocks - 1 {
			made(t, h, n%kinds, n)
		}
		before := look(h)
		for _, kind := range []int{0, 16, 31} {
			if w, ok := h.Make(kind, n); w != 0 || ok {
				t.Errorf("of a full arena, with %d fields: %X %t", n, w, ok)
			}
		}
		before.same(t, h)
	}
}

// P15.1, Make: objects don't overlap: each keeps its HEAD and its FIELDS.
func TestObjectsApart(t *testing.T) {
	h := heap.New(8)
	var objects []api.Word
	var sought [][]api.Word
	for number := 0; ; number++ {
		n := []int{0, 3, 12, 15, 16, 30, 80}[number%7]
		w, ok := h.Make(number%kinds, n)
		if !ok {
			break
		}
		want := []api.Word{}
		for i := range n {
			want = append(want, laid(uint64(number*maxObject+i), i%8))
		}
		set(t, h, w, want...)
		objects, sought = append(objects, w), append(sought, want)
	}
	if len(objects) < 30 {
		t.Errorf("only %d objects", len(objects))
	}
	for number, w := range objects {
		is(t, h, w, number%kinds, sought[number]...)
	}
}

// P15.1, Make: the FIELDS are 0 or nothing yet also where elder words stood there.
func TestMakeOverElderWords(t *testing.T) {
	for kind := range kinds {
		for _, n := range sizes() {
			h := heap.New(1)
			for at := range blockWords {
				h.Arena().Set(at, ^api.Word(at))
			}
			w := made(t, h, kind, n)
			is(t, h, w, kind, slices.Repeat([]api.Word{unset(kind)}, n)...)
			if h.Pinned(w) {
				t.Errorf("the kind %d, with %d fields: it is pinned", kind, n)
			}
			for at := n + 1; at < blockWords; at++ {
				if got, _ := h.Arena().Get(at); got != ^api.Word(at) {
					t.Fatalf("the kind %d, with %d fields: at %d the word %X", kind, n, at, got)
				}
			}
		}
	}
}

// P15.1, Make: also where an elder OBJECT stood, that was PINNED, and nothing tells any more.
func TestMakeOverElderObject(t *testing.T) {
	h := heap.New(1)
	elder := made(t, h, 31, 240)
	set(t, h, elder, slices.Repeat([]api.Word{^api.Word(0)}, 240)...)
	h.Pin(elder)
	h.Arena().Sweep()
	w := made(t, h, 1, 240)
	if w != elder {
		t.Fatalf("the next object is told by %X, the elder one by %X", w, elder)
	}
	is(t, h, w, 1, slices.Repeat([]api.Word{nothingYet}, 240)...)
	if h.Pinned(w) {
		t.Error("it is pinned")
	}
}
