package heap_test

import (
	"math/rand/v2"
	"slices"
	"testing"

	"distaff/api"
	"distaff/heap"
	"distaff/word"
)

// asked is what each call answers of a word and a number, Pin to Moved among them.
func asked(t *testing.T, h *heap.Heap, w api.Word, i int, v api.Word) []int {
	t.Helper()
	list := []int{h.Kind(w), h.Size(w), as(h.Pinned(w))}
	got, e := h.Get(w, i)
	if e != api.OK && (e != api.ErrHeap || got != 0) {
		t.Errorf("Get of field %d of %X: %X and %d", i, w, got, e)
	}
	list = append(list, int(got), int(e), int(h.Set(w, i, v)), as(h.Pin(w)), as(h.Pin(w)), as(h.Unpin(w)), as(h.Unpin(w)), as(h.Unpin(w)))
	to, ok := h.Move(w)
	at, stands := h.Moved(w)
	return append(list, int(to), place(t, to, ok), int(at), place(t, at, stands))
}

// P1: all calls end, at all words and numbers, whatever stands in the Arena.
func TestAnyWords(t *testing.T) {
	chance := rand.New(rand.NewPCG(15, 3))
	numbers := ends()
	for _, blocks := range []int{1, 2, 4} {
		list := append(others(blocks), word.Place(blocks*blockWords-1))
		for range 40 {
			h := heap.New(blocks)
			for at := range blocks * blockWords {
				h.Arena().Set(at, api.Word(chance.Uint64()>>chance.IntN(64)))
				list = append(list[:min(len(list), 3000)], word.Place(at))
			}
			for _, w := range list {
				asked(t, h, w, numbers[chance.IntN(len(numbers))], api.Word(chance.Uint64()))
				asked(t, h, w, chance.IntN(300), api.Word(chance.Uint64()))
				if chance.IntN(50) == 0 {
					h.Arena().Sweep()
				}
				if w, ok := h.Make(chance.IntN(kinds), chance.IntN(20)); ok {
					asked(t, h, w, chance.IntN(20), 0)
				}
			}
		}
	}
}

// P1: HEADS that no call makes, at each place of an arena's end: more FIELDS than there are words.
func TestAnyHeads(t *testing.T) {
	for _, n := range []uint64{0, 1, 2, 239, 240, 241, 254, 255, 256, 257, 511, 512, 1 << 20, 1<<32 + 3, 1<<52 - 1, 1 << 52, 1<<53 - 2, 1<<53 - 1} {
		for at := blockWords - 5; at < blockWords; at++ {
			h := heap.New(2)
			w := word.Place(blockWords + at)
			h.Arena().Set(word.Value(w), laid(n*256+4, headTag))
			for _, i := range append(ends(), int(n)-1, int(n)) {
				v, e := h.Get(w, i)
				if e != api.OK && (e != api.ErrHeap || v != 0) {
					t.Errorf("Get of field %d of %d: %X and %d", i, n, v, e)
				}
				if e := h.Set(w, i, 0); e != api.OK && e != api.ErrHeap {
					t.Errorf("Set of field %d of %d: %d", i, n, e)
				}
			}
			asked(t, h, w, 0, 0)
		}
	}
}

// P1: any numbers, one by one.
func TestAnyNumbers(t *testing.T) {
	list := ends()
	for _, n := range list {
		h := heap.New(n)
		for _, m := range list {
			w, ok := h.Make(n, m)
			place(t, w, ok)
			if ok && (n < 0 || n > 31 || m < 0 || m > 240) {
				t.Errorf("Make of kind %d with %d fields: %X", n, m, w)
			}
			heap.Raw(m)
			w, ok = h.Make(3, 12)
			if ok {
				h.Set(w, m, 5)
				h.Get(w, n)
			}
		}
	}
}

// answers is all that a plan of calls, made by chance from a seed, is answered, and what stands in the Arena in the end.
func answers(t *testing.T, seed uint64, between func()) ([]int, looks) {
	chance := rand.New(rand.NewPCG(seed, 4))
	h := heap.New(1 + int(seed%4))
	var told []api.Word
	var list []int
	for range 200 {
		w, ok := h.Make(chance.IntN(34)-1, chance.IntN(30)-1)
		if ok {
			told = append(told, w)
		}
		list = append(list, int(w), as(ok))
		between()
		if len(told) > 0 {
			list = append(list, asked(t, h, told[chance.IntN(len(told))], chance.IntN(30)-1, api.Word(chance.Uint64()))...)
		}
		between()
	}
	return list, look(h)
}

// P2: the same calls are answered the same, whatever is done to other heaps between them.
func TestSameAgain(t *testing.T) {
	for seed := range uint64(60) {
		other := heap.New(3)
		w := made(t, other, 3, 3)
		first, words := answers(t, seed, func() {})
		again, same := answers(t, seed, func() {
			other.Pin(w)
			other.Unpin(w)
			other.Set(w, 1, 7)
			if to, ok := other.Move(w); ok {
				w = to
			}
			heap.New(2).Make(4, 5)
		})
		if !slices.Equal(first, again) || !slices.Equal(words.words, same.words) || !slices.Equal(words.free, same.free) {
			t.Errorf("the plan of %d: %v, then %v", seed, first, again)
		}
	}
}

// P2: asking changes nothing, nor does what is refused: a plan is answered the same with and without it.
func TestAskingChangesNothing(t *testing.T) {
	chance := rand.New(rand.NewPCG(15, 5))
	for range 60 {
		p := makePair(1 + chance.IntN(4))
		for range 60 {
			d := p.anyDeed(chance)
			p.does(t, d)
			before := look(p.one)
			p.one.Kind(d.w)
			p.one.Size(d.w)
			p.one.Get(d.w, d.i)
			p.one.Pinned(d.w)
			p.one.Moved(d.w)
			p.one.Arena()
			p.one.Make(32, 0)
			p.one.Make(-1, 3)
			p.one.Make(0, 241)
			p.one.Make(16, -1)
			p.one.Set(d.w, -1, 9)
			p.one.Set(d.w, maxObject, 9)
			if p.one.Pinned(d.w) {
				p.one.Move(d.w)
			} else {
				p.one.Unpin(d.w)
			}
			before.same(t, p.one)
		}
		p.alike(t)
	}
}
