package arena_test

import (
	"math"
	"reflect"
	"slices"
	"testing"

	"distaff/api"
	"distaff/arena"
)

// The section Types: the fields are hidden, a block has 256 words and a line 16.
func TestTypes(t *testing.T) {
	kind := reflect.TypeFor[arena.Arena]()
	for i := range kind.NumField() {
		if kind.Field(i).IsExported() {
			t.Errorf("the field %s isn't hidden", kind.Field(i).Name)
		}
	}
	if api.BlockWords != blockWords || api.LineWords != lineWords || api.MaxBlocks != maxBlocks {
		t.Errorf("%d words a block, %d a line, at most %d blocks", api.BlockWords, api.LineWords, api.MaxBlocks)
	}
	if got := arena.New(1).Free(0); got != blockLines {
		t.Errorf("%d lines a block", got)
	}
}

// P14.1: New makes so many blocks, at least one, at most MaxBlocks.
func TestBlocks(t *testing.T) {
	for _, c := range []struct{ asked, want int }{
		{math.MinInt, 1}, {math.MinInt + 1, 1}, {-maxBlocks, 1}, {-2, 1}, {-1, 1}, {0, 1}, {1, 1}, {2, 2}, {3, 3}, {16, 16}, {255, 255},
		{maxBlocks - 1, maxBlocks - 1}, {maxBlocks, maxBlocks}, {maxBlocks + 1, maxBlocks}, {1 << 32, maxBlocks}, {math.MaxInt, maxBlocks},
	} {
		a := arena.New(c.asked)
		if got := a.Blocks(); got != c.want {
			t.Errorf("New of %d: %d blocks", c.asked, got)
		}
		if got := a.Empty(); got != c.want {
			t.Errorf("New of %d: %d are empty", c.asked, got)
		}
		last := c.want*blockWords - 1
		if w, e := a.Get(last); w != 0 || e != api.OK {
			t.Errorf("New of %d: at %d the word %d and %d", c.asked, last, w, e)
		}
		if w, e := a.Get(last + 1); w != 0 || e != api.ErrArena {
			t.Errorf("New of %d: at %d the word %d and %d", c.asked, last+1, w, e)
		}
	}
}

// P14.1: all words are 0.
func TestWordsAreZero(t *testing.T) {
	for _, blocks := range []int{1, 2, 5, maxBlocks} {
		a := arena.New(blocks)
		for at := range blocks * blockWords {
			if w, e := a.Get(at); w != 0 || e != api.OK {
				t.Fatalf("of %d blocks: at %d the word %d and %d", blocks, at, w, e)
			}
		}
	}
}

// P14.1: no line is TAKEN, none MARKED, the RUNS are empty and NEXT is 0.
func TestNewIsFree(t *testing.T) {
	for _, blocks := range []int{1, 3, maxBlocks} {
		a := arena.New(blocks)
		for block := range blocks {
			if got := a.Free(block); got != blockLines {
				t.Fatalf("%d lines of block %d are free", got, block)
			}
		}
		holds(t, a, step{'A', 1, 0})
		holds(t, arena.New(blocks), step{'A', 17, blocks*blockWords - blockWords})
		holds(t, arena.New(blocks), step{'F', 1, blocks*blockWords - blockWords})
		a.Sweep()
		if got := a.Empty(); got != blocks {
			t.Errorf("of %d blocks %d are empty behind Sweep", blocks, got)
		}
	}
}

// P14.1: Set changes the word at a place alone, and Get tells it.
func TestSetAndGet(t *testing.T) {
	const blocks = 3
	a := arena.New(blocks)
	want := make([]api.Word, blocks*blockWords)
	for _, c := range []struct {
		at int
		w  api.Word
	}{
		{0, 1}, {1, 2}, {15, 3}, {16, 4}, {17, 5}, {255, 6}, {256, 7}, {257, 8}, {511, 9}, {512, 10},
		{blocks*blockWords - 1, ^api.Word(0)}, {0, 1 << 63}, {256, 0}, {300, 12}, {300, 12},
	} {
		if e := a.Set(c.at, c.w); e != api.OK {
			t.Errorf("Set at %d: %d", c.at, e)
		}
		want[c.at] = c.w
		if got := all(a); !slices.Equal(got, want) {
			t.Fatalf("behind Set at %d: %v", c.at, got)
		}
	}
}

// all is all words of an arena.
func all(a *arena.Arena) []api.Word {
	var list []api.Word
	for at := 0; ; at++ {
		w, e := a.Get(at)
		if e != api.OK {
			return list
		}
		list = append(list, w)
	}
}

// P14.1, Errors: 141 and 0 where there is no such word, and then nothing changes.
func TestNoSuchWord(t *testing.T) {
	if api.ErrArena != 141 {
		t.Errorf("ErrArena is %d", api.ErrArena)
	}
	for _, blocks := range []int{1, 2, maxBlocks} {
		a := arena.New(blocks)
		words := blocks * blockWords
		for at := range words {
			a.Set(at, api.Word(at+1))
		}
		for _, at := range []int{math.MinInt, math.MinInt + 1, -words, -256, -2, -1, words, words + 1, words + 256, 1 << 32, 1 << 62, math.MaxInt - 1, math.MaxInt} {
			if w, e := a.Get(at); w != 0 || e != 141 {
				t.Errorf("of %d blocks: Get at %d: %d and %d", blocks, at, w, e)
			}
			if e := a.Set(at, 7); e != 141 {
				t.Errorf("of %d blocks: Set at %d: %d", blocks, at, e)
			}
		}
		for at := range words {
			if w, e := a.Get(at); w != api.Word(at+1) || e != api.OK {
				t.Fatalf("of %d blocks: at %d the word %d and %d", blocks, at, w, e)
			}
		}
	}
}

// Words stay as they are, whatever is taken, MARKED and free, and say nothing of that.
func TestWordsStay(t *testing.T) {
	a := arena.New(4)
	want := make([]api.Word, 4*blockWords)
	for at := range want {
		want[at] = api.Word(at * at)
		a.Set(at, want[at])
	}
	for _, n := range []int{1, 16, 17, 200, 256} {
		a.Alloc(n)
		a.Fresh(n)
		a.Mark(n, n)
		a.Sweep()
		if !slices.Equal(all(a), want) {
			t.Errorf("%v", all(a))
		}
	}
	b := arena.New(1)
	for at := range blockWords {
		b.Set(at, 5)
	}
	if b.Free(0) != blockLines || b.Empty() != 1 {
		t.Errorf("%d lines are free", b.Free(0))
	}
	holds(t, b, step{'A', 256, 0})
}
