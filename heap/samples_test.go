package heap_test

import (
	"math"
	"slices"
	"testing"

	"distaff/api"
	"distaff/heap"
	"distaff/word"
)

const (
	blockWords = 256
	lineWords  = 16
	maxBlocks  = 4096
	maxObject  = 240
	kinds      = 32
	firstRaw   = 16
	mostPins   = 7
	placeTag   = 1
	headTag    = 6
	movedTag   = 7
	nothingYet = api.Word(5*8 + 5) // the SINGLE 5
)

// laid is the word of a tag, and of the 61 bits above it.
func laid(bits uint64, tag int) api.Word { return api.Word(bits*8 + uint64(tag)) }

// headOf is a HEAD as the section Types tells it: 8 for the TAG, 32 for the KIND, 8 for how often it is PINNED.
func headOf(kind, pins, n int) api.Word {
	return api.Word(headTag + 8*kind + 8*32*pins + 8*32*8*n)
}

// unset is what a kind's FIELDS are behind Make.
func unset(kind int) api.Word {
	if kind >= firstRaw {
		return 0
	}
	return nothingYet
}

// sizes is numbers of FIELDS, on both sides of the lines' and runs' ends.
func sizes() []int { return []int{0, 1, 2, 3, 14, 15, 16, 17, 31, 100, 239, 240} }

// made is a new OBJECT; the test ends, if there is none.
func made(t *testing.T, h *heap.Heap, kind, n int) api.Word {
	t.Helper()
	w, ok := h.Make(kind, n)
	if !ok {
		t.Fatalf("Make of kind %d with %d fields: false", kind, n)
	}
	return w
}

// moved is the copy of an OBJECT; the test ends, if there is none.
func moved(t *testing.T, h *heap.Heap, w api.Word) api.Word {
	t.Helper()
	to, ok := h.Move(w)
	if !ok {
		t.Fatalf("Move of %X: false", w)
	}
	return to
}

// set puts words into an OBJECT's FIELDS, the first one first.
func set(t *testing.T, h *heap.Heap, w api.Word, fields ...api.Word) {
	t.Helper()
	for i, v := range fields {
		if e := h.Set(w, i, v); e != api.OK {
			t.Fatalf("Set of field %d of %X: %d", i, w, e)
		}
	}
}

// fields is an OBJECT's FIELDS.
func fields(t *testing.T, h *heap.Heap, w api.Word) []api.Word {
	t.Helper()
	list := []api.Word{}
	for i := range h.Size(w) {
		v, e := h.Get(w, i)
		if e != api.OK {
			t.Fatalf("Get of field %d of %X: %d", i, w, e)
		}
		list = append(list, v)
	}
	return list
}

// is complains, unless a word tells an OBJECT of a KIND with these FIELDS.
func is(t *testing.T, h *heap.Heap, w api.Word, kind int, want ...api.Word) {
	t.Helper()
	if h.Kind(w) != kind || h.Size(w) != len(want) {
		t.Fatalf("%X: the kind %d with %d fields, not %d with %d", w, h.Kind(w), h.Size(w), kind, len(want))
	}
	if got := fields(t, h, w); !slices.Equal(got, want) {
		t.Fatalf("%X: the fields %X, not %X", w, got, want)
	}
}

// isNone complains, unless a word tells no OBJECT, whatever is asked of it, and nothing comes of that.
func isNone(t *testing.T, h *heap.Heap, w api.Word) {
	t.Helper()
	before := look(h)
	if h.Kind(w) != -1 || h.Size(w) != -1 {
		t.Errorf("%X: the kind %d with %d fields", w, h.Kind(w), h.Size(w))
	}
	for _, i := range []int{math.MinInt, -2, -1, 0, 1, maxObject, math.MaxInt} {
		if v, e := h.Get(w, i); v != 0 || e != api.ErrHeap {
			t.Errorf("Get of field %d of %X: %X and %d", i, w, v, e)
		}
		if e := h.Set(w, i, 8); e != api.ErrHeap {
			t.Errorf("Set of field %d of %X: %d", i, w, e)
		}
	}
	if h.Pin(w) || h.Unpin(w) || h.Pinned(w) {
		t.Errorf("%X: it can be pinned, or unpinned, or is it", w)
	}
	if to, ok := h.Move(w); to != 0 || ok {
		t.Errorf("Move of %X: %X %t", w, to, ok)
	}
	before.same(t, h)
}

// looks is what there is to be seen of a heap's Arena.
type looks struct {
	words []api.Word
	free  []int
}

func look(h *heap.Heap) looks {
	var l looks
	for at := 0; ; at++ {
		w, e := h.Arena().Get(at)
		if e != api.OK {
			break
		}
		l.words = append(l.words, w)
	}
	for block := range h.Arena().Blocks() {
		l.free = append(l.free, h.Arena().Free(block))
	}
	return l
}

// same complains, if something else is to be seen now.
func (l looks) same(t *testing.T, h *heap.Heap) {
	t.Helper()
	now := look(h)
	if !slices.Equal(l.free, now.free) {
		t.Errorf("%v lines were free, %v are", l.free, now.free)
	}
	for at, w := range now.words {
		if w != l.words[at] {
			t.Errorf("at %d the word %X was, %X is", at, l.words[at], w)
		}
	}
}

// ends is numbers on both sides of each end that the chapter names, of tags, and of the ends of int.
func ends() []int {
	list := []int{math.MinInt, math.MinInt + 1, math.MaxInt - 1, math.MaxInt, 1<<32 + 1, -1 << 32}
	for _, n := range []int{0, 5, mostPins, firstRaw, kinds, maxObject, blockWords, maxBlocks, maxBlocks * blockWords, 1 << 53, 1 << 60, 1 << 61, 1 << 62} {
		for off := -2; off <= 2; off++ {
			list = append(list, n+off, -n+off)
		}
	}
	return list
}

// others is words of all tags but PLACE, and Places that no arena of so many blocks has.
func others(blocks int) []api.Word {
	list := []api.Word{
		^api.Word(0), ^api.Word(0) - 1, ^api.Word(0) - 6, 1 << 63, 1<<63 + 1,
		word.Place(blocks * blockWords), word.Place(blocks*blockWords + 1), word.Place(maxBlocks * blockWords), word.Place(api.MaxNum), word.Place(-1),
	}
	for _, n := range ends() {
		for tag := range 8 {
			if tag != placeTag {
				list = append(list, laid(uint64(n), tag))
			}
		}
		if uint64(n)%(1<<61) >= uint64(blocks*blockWords) {
			list = append(list, word.Place(n))
		}
	}
	return list
}
