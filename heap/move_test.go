package heap_test

import (
	"slices"
	"testing"

	"distaff/api"
	"distaff/arena"
	"distaff/heap"
	"distaff/word"
)

// mixed is so many words, each another one, of all tags.
func mixed(n, from int) []api.Word {
	list := []api.Word{}
	for i := range n {
		list = append(list, laid(uint64(from+i)*0x123456789ABCDF, i%8))
	}
	return list
}

// P15.3, Move: a copy of KIND, N and all FIELDS; the elder tells that it stands for it, and nothing else is changed.
func TestMove(t *testing.T) {
	for kind := range kinds {
		for n := range maxObject + 1 {
			h := heap.New(3)
			made(t, h, 3, 20) // in the last block
			w := made(t, h, kind, n)
			want := mixed(n, kind)
			set(t, h, w, want...)
			before := look(h)
			to, ok := h.Move(w)
			if word.Kind(to) != placeTag || !ok || to == w {
				t.Fatalf("the kind %d, with %d fields: %X %t", kind, n, to, ok)
			}
			is(t, h, to, kind, want...)
			isNone(t, h, w)
			if h.Pinned(to) || h.Unpin(to) {
				t.Errorf("the kind %d, with %d fields: the copy is pinned", kind, n)
			}
			if at, ok := h.Moved(w); at != to || !ok {
				t.Errorf("the kind %d, with %d fields: Moved tells %X %t, not %X", kind, n, at, ok, to)
			}
			if at, ok := h.Moved(to); at != 0 || ok {
				t.Errorf("the kind %d, with %d fields: the copy was moved to %X", kind, n, at)
			}
			before.words[word.Value(w)] = laid(uint64(word.Value(to)), movedTag)
			before.words[word.Value(to)] = headOf(kind, 0, n)
			copy(before.words[word.Value(to)+1:], want)
			before.free = look(h).free
			before.same(t, h)
		}
	}
}

// P15.3, Move: where the Arena's Fresh of n and one words says, till that is false: then 0 and false, and nothing is changed.
func TestMoveAsFresh(t *testing.T) {
	for n := range maxObject + 1 {
		h, a := heap.New(3), arena.New(3)
		w := made(t, h, n%kinds, n)
		a.Alloc(n + 1)
		for {
			at, there := a.Fresh(n + 1)
			before := look(h)
			to, ok := h.Move(w)
			if ok != there || ok && to != word.Place(at) || !ok && to != 0 {
				t.Fatalf("with %d fields: %X %t, not at %d", n, to, ok, at)
			}
			if !ok {
				before.same(t, h)
				is(t, h, w, n%kinds, slices.Repeat([]api.Word{unset(n % kinds)}, n)...)
				break
			}
			w = to
		}
	}
}

// P15.3, Move: without an empty block Fresh is false, whatever else is free.
func TestMoveWithoutEmptyBlock(t *testing.T) {
	h := heap.New(1)
	w := made(t, h, 6, 3)
	set(t, h, w, 1, 2, 3)
	before := look(h)
	for range 3 {
		if to, ok := h.Move(w); to != 0 || ok {
			t.Errorf("%X %t", to, ok)
		}
		if to, ok := h.Moved(w); to != 0 || ok {
			t.Errorf("Moved: %X %t", to, ok)
		}
	}
	before.same(t, h)
	is(t, h, w, 6, 1, 2, 3)
}

// P15.3, Move: of what is PINNED 0 and false, and nothing is changed; when it isn't any more, it goes.
func TestMoveOfWhatIsPinned(t *testing.T) {
	for _, kind := range []int{0, 15, 16, 31} {
		for pins := 1; pins <= mostPins; pins++ {
			h := heap.New(2)
			w := made(t, h, kind, 4)
			set(t, h, w, 5, 6, 7, 8)
			for range pins {
				h.Pin(w)
			}
			before := look(h)
			for left := pins; left > 0; left-- {
				if to, ok := h.Move(w); to != 0 || ok {
					t.Errorf("%d times pinned: %X %t", left, to, ok)
				}
				if to, ok := h.Moved(w); to != 0 || ok {
					t.Errorf("%d times pinned: moved to %X %t", left, to, ok)
				}
				before.words[word.Value(w)] = headOf(kind, left, 4)
				before.same(t, h)
				h.Unpin(w)
			}
			if to := moved(t, h, w); to != word.Place(blockWords) {
				t.Errorf("the copy is at %d: a move that was refused took words", word.Value(to))
			}
		}
	}
}

// P15.3, Move: of what tells no OBJECT, or was moved, 0 and false, and no words are taken (see TestOtherWords, too).
func TestMoveOfNoObject(t *testing.T) {
	h := heap.New(2)
	w := made(t, h, 5, 9)
	to := moved(t, h, w)
	isNone(t, h, w)
	isNone(t, h, word.Place(100))
	isNone(t, h, word.Char('a'))
	if next := moved(t, h, to); next != word.Place(word.Value(to)+10) {
		t.Errorf("the next copy is at %d", word.Value(next))
	}
}

// P15.3, Moved: what was moved in turn tells each time what stands for it, the place that its own HEAD tells.
func TestMovedInTurn(t *testing.T) {
	h := heap.New(4)
	list := []api.Word{made(t, h, 12, 7)}
	set(t, h, list[0], mixed(7, 3)...)
	for range 50 {
		last := list[len(list)-1]
		list = append(list, moved(t, h, last))
		for i, w := range list {
			to, ok := h.Moved(w)
			if w == list[len(list)-1] {
				if to != 0 || ok {
					t.Fatalf("the last copy was moved to %X %t", to, ok)
				}
				is(t, h, w, 12, mixed(7, 3)...)
				continue
			}
			if to != list[i+1] || !ok || h.Kind(w) != -1 {
				t.Fatalf("the copy %d: moved to %X %t, not to %X; the kind %d", i, to, ok, list[i+1], h.Kind(w))
			}
		}
	}
}

// P15.3, Moved: 0 and false of words whose HEAD doesn't tell so.
func TestNotMoved(t *testing.T) {
	h := heap.New(2)
	w := made(t, h, 2, 3)
	h.Pin(w)
	for _, w := range append(others(2), w, word.Place(4), word.Place(511)) {
		if to, ok := h.Moved(w); to != 0 || ok {
			t.Errorf("Moved of %X: %X %t", w, to, ok)
		}
	}
	for _, v := range some() {
		h.Arena().Set(100, v)
		if to, ok := h.Moved(word.Place(100)); ok != (word.Kind(v) == movedTag) || !ok && to != 0 {
			t.Errorf("Moved of a place where %X is: %X %t", v, to, ok)
		}
	}
}

// P15.3: the elder's FIELDS and the copy's are two: neither changes the other's.
func TestCopyByItself(t *testing.T) {
	h := heap.New(2)
	w := made(t, h, 18, 3)
	set(t, h, w, 1, 2, 3)
	to := moved(t, h, w)
	set(t, h, to, 4, 5)
	h.Pin(to)
	for i, want := range []api.Word{laid(uint64(word.Value(to)), movedTag), 1, 2, 3} {
		if got, _ := h.Arena().Get(word.Value(w) + i); got != want {
			t.Errorf("the elder's word %d is %X", i, got)
		}
	}
	h.Arena().Set(word.Value(w)+1, 99)
	is(t, h, to, 18, 4, 5, 3)
}

// P15.3: words that told it, in FIELDS, too, tell the elder still: they are the collector's to change.
func TestMoveChangesNoFields(t *testing.T) {
	h := heap.New(2)
	one, two := made(t, h, 0, 2), made(t, h, 0, 2)
	set(t, h, one, two, one)
	set(t, h, two, one, two)
	to := moved(t, h, one)
	is(t, h, to, 0, two, one)
	is(t, h, two, 0, one, two)
}

// P15.3, Move: a copy of all FIELDS, also where the Arena has freed the elder's words, and gives some of them for the copy.
func TestMoveOverItsOwnWords(t *testing.T) {
	for ahead := range 12 {
		h := heap.New(1)
		w := made(t, h, 1, 10)
		set(t, h, w, mixed(10, 2)...)
		h.Arena().Sweep()
		for range ahead {
			h.Arena().Fresh(1)
		}
		to := moved(t, h, w)
		if to != word.Place(ahead) {
			t.Fatalf("behind %d words: %X", ahead, to)
		}
		if at, ok := h.Moved(w); at != to || !ok {
			t.Errorf("behind %d words: moved to %X %t", ahead, at, ok)
		}
		if ahead > 0 {
			is(t, h, to, 1, mixed(10, 2)...)
		}
	}
}
