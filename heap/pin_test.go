package heap_test

import (
	"testing"

	"distaff/api"
	"distaff/heap"
	"distaff/word"
)

// P15.3, Pin and Unpin: up to seven times, and as often back; at the ends false, and nothing is changed.
func TestPin(t *testing.T) {
	for kind := range kinds {
		for _, n := range sizes() {
			h := heap.New(2)
			other := made(t, h, 1, 0)
			w := made(t, h, kind, n)
			want := look(h)
			pinned := func(pins int) {
				t.Helper()
				want.words[word.Value(w)] = headOf(kind, pins, n)
				want.same(t, h)
				if h.Pinned(w) != (pins > 0) || h.Pinned(other) {
					t.Errorf("the kind %d, with %d fields, %d times pinned: %t, the other one %t", kind, n, pins, h.Pinned(w), h.Pinned(other))
				}
			}
			for pins := range mostPins {
				pinned(pins)
				if !h.Pin(w) {
					t.Errorf("the kind %d, with %d fields, %d times pinned: not once more", kind, n, pins)
				}
			}
			for range 3 {
				pinned(mostPins)
				if h.Pin(w) {
					t.Errorf("the kind %d, with %d fields: pinned an eighth time", kind, n)
				}
			}
			for pins := mostPins; pins > 0; pins-- {
				pinned(pins)
				if !h.Unpin(w) {
					t.Errorf("the kind %d, with %d fields, %d times pinned: not once less", kind, n, pins)
				}
			}
			for range 3 {
				pinned(0)
				if h.Unpin(w) {
					t.Errorf("the kind %d, with %d fields: unpinned once too often", kind, n)
				}
			}
		}
	}
}

// P15.3: all ways of ten steps up and down, held against a number.
func TestPinUpAndDown(t *testing.T) {
	for _, kind := range []int{0, 31} {
		for way := range 1 << 11 {
			h := heap.New(1)
			w := made(t, h, kind, 240)
			pins := 0
			for step := range 11 {
				call, by := h.Pin, 1
				if way>>step&1 == 1 {
					call, by = h.Unpin, -1
				}
				can := pins+by >= 0 && pins+by <= 7
				if can {
					pins += by
				}
				if got := call(w); got != can || h.Pinned(w) != (pins > 0) {
					t.Fatalf("the way %b, step %d: %t, pinned %t, not %d times", way, step, got, h.Pinned(w), pins)
				}
			}
			is(t, h, w, kind, fields(t, h, w)...)
			if h.Size(w) != 240 {
				t.Fatalf("the way %b: %d fields", way, h.Size(w))
			}
		}
	}
}

// P15.3: all false of what was moved, and of what tells no OBJECT (see TestOtherWords, too).
func TestPinOfNoObject(t *testing.T) {
	h := heap.New(2)
	w := made(t, h, 5, 9)
	to := moved(t, h, w)
	isNone(t, h, w)
	if !h.Pin(to) || !h.Pinned(to) {
		t.Error("the copy can't be pinned")
	}
	if h.Pinned(w) || h.Unpin(w) {
		t.Error("the elder is pinned with it")
	}
	if got, _ := h.Arena().Get(word.Value(w)); got != laid(uint64(word.Value(to)), movedTag) {
		t.Errorf("the elder's head is %X", got)
	}
}

// P15.3: of many OBJECTS each is PINNED by itself.
func TestPinEachByItself(t *testing.T) {
	h := heap.New(2)
	var objects []api.Word
	for number := range 30 {
		objects = append(objects, made(t, h, number, number%5))
	}
	for number, w := range objects {
		for range number % 9 {
			h.Pin(w)
		}
	}
	for number, w := range objects {
		if got, _ := h.Arena().Get(word.Value(w)); got != headOf(number, min(number%9, mostPins), number%5) {
			t.Errorf("the object %d: the head %X", number, got)
		}
	}
}
