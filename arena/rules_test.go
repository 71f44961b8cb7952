package arena_test

import (
	"math/rand/v2"
	"slices"
	"testing"

	"distaff/api"
	"distaff/arena"
)

// P1: all calls end, at any numbers, and what is told lies in a block, apart from all else that was told.
func TestAnyNumbers(t *testing.T) {
	list := ends()
	for _, blocks := range []int{-1, 1, 3, 5000} {
		a := arena.New(blocks)
		words := a.Blocks() * blockWords
		for i, n := range list {
			for _, m := range list {
				a.Mark(n, m)
			}
			a.Get(n)
			a.Set(n, 1)
			a.Free(n)
			for _, call := range []byte("AF") {
				at := asked(t, a, call, n)
				if at != none && (n < 1 || n > blockWords || at < 0 || at > words-n || at/blockWords != (at+n-1)/blockWords) {
					t.Errorf("%c of %d: %d", call, n, at)
				}
			}
			if i%5 == 0 {
				a.Sweep()
			}
		}
		a.Sweep()
		if got := a.Empty(); got < 0 || got > a.Blocks() {
			t.Errorf("%d empty", got)
		}
	}
}

// The ends of New, one by one.
func TestAnyBlocks(t *testing.T) {
	for _, n := range ends() {
		if got := arena.New(n).Blocks(); got < 1 || got > maxBlocks || n >= 1 && n <= maxBlocks && got != n {
			t.Errorf("New of %d: %d blocks", n, got)
		}
	}
}

// answers is all that a plan of calls, made by chance from a seed, is answered.
func answers(seed uint64, between func()) []int {
	chance := rand.New(rand.NewPCG(seed, 4))
	a := arena.New(1 + int(seed%5))
	var list []int
	for range 300 {
		d := anyDeed(chance, a.Blocks()*blockWords)
		switch d.call {
		case 'A', 'F':
			at, ok := a.Alloc(d.n)
			if d.call == 'F' {
				at, ok = a.Fresh(d.n)
			}
			list = append(list, at)
			if !ok {
				list = append(list, none)
			}
		case 'M':
			a.Mark(d.at, d.n)
		case 'S':
			a.Sweep()
		case 'P':
			list = append(list, int(a.Set(d.at, api.Word(d.n))))
		case 'G':
			w, e := a.Get(d.at)
			list = append(list, int(w), int(e))
		}
		list = append(list, free(a)...)
		list = append(list, a.Empty(), a.Blocks())
		between()
	}
	return list
}

// P2: the same calls are answered the same, whatever is done to other arenas between them.
func TestSameAgain(t *testing.T) {
	for seed := range uint64(60) {
		other := arena.New(4)
		first := answers(seed, func() {})
		again := answers(seed, func() {
			other.Alloc(3)
			other.Alloc(30)
			other.Fresh(3)
			other.Mark(20, 300)
			other.Sweep()
			other.Set(0, 99)
			arena.New(2).Alloc(256)
		})
		if !slices.Equal(first, again) {
			t.Errorf("the plan of %d: %v, then %v", seed, first, again)
		}
	}
}

// P2: asking changes nothing: a plan is answered the same with and without questions between its calls.
func TestAskingChangesNothing(t *testing.T) {
	for seed := range uint64(60) {
		chance := rand.New(rand.NewPCG(seed, 5))
		a, b := arena.New(3), arena.New(3)
		for range 200 {
			d := anyDeed(chance, 3*blockWords)
			free(a)
			a.Empty()
			a.Blocks()
			a.Get(d.at)
			a.Alloc(0)
			a.Fresh(blockWords + 1)
			a.Set(-1, 5)
			a.Set(3*blockWords, 5)
			a.Mark(d.at, 0)
			a.Free(-1)
			for _, x := range []*arena.Arena{a, b} {
				x.Set(d.at, api.Word(d.n))
				if d.call == 'M' {
					x.Mark(d.at, d.n)
				}
				if d.call == 'S' {
					x.Sweep()
				}
			}
			if d.call == 'A' || d.call == 'F' {
				if got, want := asked(t, a, d.call, d.n), asked(t, b, d.call, d.n); got != want {
					t.Fatalf("%c of %d: %d with questions, %d without", d.call, d.n, got, want)
				}
			}
		}
		if !slices.Equal(all(a), all(b)) || !slices.Equal(free(a), free(b)) {
			t.Errorf("the plan of %d: the arenas differ", seed)
		}
	}
}
