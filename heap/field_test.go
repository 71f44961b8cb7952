package heap_test

import (
	"math"
	"slices"
	"testing"

	"distaff/api"
	"distaff/heap"
	"distaff/word"
)

// some is words of each kind, and bits that are none.
func some() []api.Word {
	list := []api.Word{0, 1, nothingYet, 1 << 63, ^api.Word(0), ^api.Word(0) >> 1, 0xAAAAAAAAAAAAAAAA, 0x5555555555555555}
	for tag := range 8 {
		list = append(list, laid(0, tag), laid(5, tag), laid(1<<61-1, tag))
	}
	return list
}

// P15.2, Kind and Size: of what Make and Move told, whatever its FIELDS are.
func TestKindAndSize(t *testing.T) {
	for kind := range kinds {
		for _, n := range sizes() {
			for _, v := range some() {
				h := heap.New(2)
				w := made(t, h, kind, n)
				set(t, h, w, slices.Repeat([]api.Word{v}, n)...)
				is(t, h, w, kind, slices.Repeat([]api.Word{v}, n)...)
				is(t, h, moved(t, h, w), kind, slices.Repeat([]api.Word{v}, n)...)
			}
		}
	}
}

// P15.2, P15.3: words of each other TAG, and Places that the Arena hasn't, tell no OBJECT.
func TestOtherWords(t *testing.T) {
	for _, blocks := range []int{1, 3} {
		h := heap.New(blocks)
		w := made(t, h, 0, 3)
		for tag := range 8 {
			if tag != placeTag {
				isNone(t, h, laid(uint64(word.Value(w)), tag)) // an object is there
			}
		}
		for _, w := range others(blocks) {
			isNone(t, h, w)
			if to, ok := h.Moved(w); to != 0 || ok {
				t.Errorf("Moved of %X: %X %t", w, to, ok)
			}
		}
	}
}

// P15.2: Places of the Arena without a HEAD: words of each TAG but 6.
func TestPlacesWithoutHead(t *testing.T) {
	h := heap.New(1)
	isNone(t, h, word.Place(0)) // of a new arena
	for _, v := range some() {
		if word.Kind(v) != headTag {
			h.Arena().Set(7, v)
			isNone(t, h, word.Place(7))
		}
	}
}

// P15.2: as many blocks as there can be: their last place, and those behind it.
func TestLastPlace(t *testing.T) {
	h := heap.New(math.MaxInt)
	last := maxBlocks*blockWords - 1
	isNone(t, h, word.Place(last+1))
	for range maxBlocks {
		made(t, h, 17, 240)
	}
	h.Arena().Sweep()
	for range maxBlocks*blockWords/2 - 1 {
		made(t, h, 2, 1)
	}
	w := made(t, h, 29, 1)
	if word.Value(w) != last-1 {
		t.Fatalf("the last object is at %d", word.Value(w))
	}
	set(t, h, w, 77)
	is(t, h, w, 29, 77)
	if got, _ := h.Arena().Get(last); got != 77 {
		t.Errorf("the last word is %X", got)
	}
}

// P15.2, Get and Set, Errors: FIELDS from 0 to N - 1 are there; of all others 151 and 0, and nothing is changed.
func TestNoSuchField(t *testing.T) {
	if api.ErrHeap != 151 {
		t.Errorf("ErrHeap is %d", api.ErrHeap)
	}
	for _, kind := range []int{0, 15, 16, 31} {
		for _, n := range sizes() {
			h := heap.New(2)
			made(t, h, 20, 2)
			w := made(t, h, kind, n)
			made(t, h, 20, 2)
			before := look(h)
			for _, i := range append(ends(), -1, n, n+1, n+2, -n, -n-1, 1<<61+n, n-1<<61) {
				if i >= 0 && i < n {
					continue
				}
				if v, e := h.Get(w, i); v != 0 || e != 151 {
					t.Errorf("of %d fields, Get of %d: %X and %d", n, i, v, e)
				}
				if e := h.Set(w, i, 9); e != 151 {
					t.Errorf("of %d fields, Set of %d: %d", n, i, e)
				}
			}
			before.same(t, h)
		}
	}
}

// P15.2: of what tells no OBJECT there is no FIELD at all.
func TestNoFieldOfNoObject(t *testing.T) {
	h := heap.New(2)
	w := made(t, h, 5, 9)
	moved(t, h, w)
	for _, w := range []api.Word{w, 0, word.Char(0), laid(0, headTag), word.Place(2 * blockWords), ^api.Word(0)} {
		for i := -2; i < 12; i++ {
			if v, e := h.Get(w, i); v != 0 || e != api.ErrHeap {
				t.Errorf("Get of field %d of %X: %X and %d", i, w, v, e)
			}
			if e := h.Set(w, i, 9); e != api.ErrHeap {
				t.Errorf("Set of field %d of %X: %d", i, w, e)
			}
		}
	}
}

// P15.2, Set: that FIELD alone is changed, to any bits, and Get tells them.
func TestSetOneField(t *testing.T) {
	for _, kind := range []int{0, 15, 16, 31} {
		for _, n := range []int{1, 2, 15, 16, 240} {
			h := heap.New(3)
			made(t, h, 1, 4)
			w := made(t, h, kind, n)
			made(t, h, 1, 4)
			made(t, h, 1, 15)
			want := look(h)
			for i := range n {
				for _, v := range some() {
					if e := h.Set(w, i, v); e != api.OK {
						t.Fatalf("Set of field %d: %d", i, e)
					}
					if got, e := h.Get(w, i); got != v || e != api.OK {
						t.Fatalf("Get of field %d: %X and %d, not %X", i, got, e, v)
					}
					want.words[word.Value(w)+1+i] = v
				}
				want.same(t, h)
			}
		}
	}
}

// P15.2: how often an OBJECT is PINNED doesn't matter to its FIELDS.
func TestFieldsOfWhatIsPinned(t *testing.T) {
	h := heap.New(1)
	w := made(t, h, 8, 2)
	for pins := range mostPins {
		set(t, h, w, api.Word(pins), ^api.Word(pins))
		h.Pin(w)
		is(t, h, w, 8, api.Word(pins), ^api.Word(pins))
	}
}
