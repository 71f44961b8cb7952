package arena_test

import (
	"math"
	"slices"
	"strings"
	"testing"

	"distaff/arena"
)

// lined is a text as drawn takes it, of so many blocks, in which just some lines are TAKEN.
func lined(blocks int, taken ...int) string {
	signs := []byte(strings.Repeat(".", blocks*blockLines))
	for _, line := range taken {
		signs[line] = '#'
	}
	return string(signs)
}

// span is words from a place on.
type span struct{ at, n int }

// P14.3, Mark: each line in which one of the words lies, and no other one.
func TestMark(t *testing.T) {
	const blocks = 3
	const words = blocks * blockWords
	every := lined(0) + strings.Repeat("#", blocks*blockLines)
	for _, c := range []struct {
		marks []span
		want  string
	}{
		{nil, lined(blocks)},
		{[]span{{0, 1}}, lined(blocks, 0)},
		{[]span{{0, 16}}, lined(blocks, 0)},
		{[]span{{0, 17}}, lined(blocks, 0, 1)},
		{[]span{{15, 1}}, lined(blocks, 0)},
		{[]span{{15, 2}}, lined(blocks, 0, 1)},
		{[]span{{16, 1}}, lined(blocks, 1)},
		{[]span{{10, 7}}, lined(blocks, 0, 1)},
		{[]span{{15, 18}}, lined(blocks, 0, 1, 2)},
		{[]span{{15, 17}}, lined(blocks, 0, 1)},
		{[]span{{250, 6}}, lined(blocks, 15)},
		{[]span{{250, 7}}, lined(blocks, 15, 16)}, // of two blocks
		{[]span{{255, 2}}, lined(blocks, 15, 16)},
		{[]span{{256, 256}}, drawnBlocks(dots, sharps, dots)},
		{[]span{{255, 258}}, lined(blocks, 15, 16, 17, 18, 19, 20, 21, 22, 23, 24, 25, 26, 27, 28, 29, 30, 31, 32)},
		{[]span{{words - 1, 1}}, lined(blocks, 47)},
		{[]span{{words - 16, 16}}, lined(blocks, 47)},
		{[]span{{words - 17, 17}}, lined(blocks, 46, 47)},
		{[]span{{0, words}}, every},
		{[]span{{32, 1}, {100, 20}, {32, 1}}, lined(blocks, 2, 6, 7)},
		{[]span{{0, 20}, {10, 30}}, lined(blocks, 0, 1, 2)},
		// n below 1
		{[]span{{0, 0}, {20, 0}, {20, -1}, {20, -5}, {300, -200}, {words - 1, math.MinInt}, {-1, math.MinInt}, {math.MinInt, math.MinInt}, {math.MaxInt, math.MinInt}}, lined(blocks)},
		// words that aren't there
		{[]span{{-1, 1}}, lined(blocks)},
		{[]span{{-16, 16}, {-100, 99}, {-256, 256}}, lined(blocks)},
		{[]span{{-1, 2}}, lined(blocks, 0)},
		{[]span{{-100, 117}}, lined(blocks, 0, 1)},
		{[]span{{words, 1}, {words, 100}, {words + 300, 1}, {words, math.MaxInt}}, lined(blocks)},
		{[]span{{words - 1, 2}}, lined(blocks, 47)},
		{[]span{{words - 20, 1000}}, lined(blocks, 46, 47)},
		{[]span{{-5, words + 10}}, every},
		{[]span{{0, math.MaxInt}}, every},
		{[]span{{-1, math.MaxInt}}, every},
		{[]span{{16, math.MaxInt}}, "." + every[1:]},
		{[]span{{words - 1, math.MaxInt}}, lined(blocks, 47)},
		{[]span{{math.MinInt, math.MaxInt}, {math.MinInt, 1}, {math.MinInt + 1, math.MaxInt}}, lined(blocks)},
		{[]span{{math.MinInt + 2, math.MaxInt}}, lined(blocks, 0)}, // its last word is the first one
		{[]span{{math.MaxInt, 1}, {math.MaxInt, math.MaxInt}, {math.MaxInt - 1, 2}, {math.MaxInt - 5, 10}}, lined(blocks)},
		{[]span{{1 << 62, 1 << 62}, {-1 << 62, 1 << 62}}, lined(blocks)},
		{[]span{{-1 << 62, 1<<62 + 17}}, lined(blocks, 0, 1)},
	} {
		a := arena.New(blocks)
		for _, m := range c.marks {
			a.Mark(m.at, m.n)
		}
		if got := picture(t, a); got != c.want {
			t.Errorf("Mark of %v: %s, not %s", c.marks, got, c.want)
		}
	}
}

// drawnBlocks is the texts of blocks, one behind the other.
func drawnBlocks(blocks ...string) string { return strings.Join(blocks, "") }

// P14.3: Mark takes no line: that is for Sweep.
func TestMarkTakesNone(t *testing.T) {
	a := arena.New(2)
	a.Mark(0, 2*blockWords)
	if got := free(a); !slices.Equal(got, []int{16, 16}) || a.Empty() != 2 {
		t.Errorf("%v, %d empty", got, a.Empty())
	}
	holds(t, a, step{'A', 16, 0}, step{'A', 17, 256}, step{'A', 16, 16}, step{'F', 1, none})
	a.Sweep()
	if got := free(a); !slices.Equal(got, []int{0, 0}) || a.Empty() != 0 {
		t.Errorf("behind Sweep %v, %d empty", got, a.Empty())
	}
	holds(t, a, step{'A', 1, none}, step{'A', 17, none}, step{'F', 1, none})
}

// P14.3, Sweep: what isn't MARKED is free, also what was TAKEN; and none is MARKED any more.
func TestSweep(t *testing.T) {
	a := drawn("##.#............|................")
	holds(t, a, step{'A', 10, 32}, step{'A', 30, 256})
	a.Mark(256, 30)
	a.Mark(48, 1)
	a.Sweep()
	if got := free(a); !slices.Equal(got, []int{15, 14}) || a.Empty() != 0 {
		t.Errorf("%v, %d empty", got, a.Empty())
	}
	holds(t, a, step{'A', 16, 0}, step{'A', 33, 64}, step{'A', 16, 16}, step{'A', 16, 32}, step{'A', 16, 288})
	a.Sweep()
	if got := free(a); !slices.Equal(got, []int{16, 16}) || a.Empty() != 2 {
		t.Errorf("behind one more %v, %d empty", got, a.Empty())
	}
	a.Sweep()
	if a.Empty() != 2 {
		t.Errorf("%d empty", a.Empty())
	}
}

// P14.3, Sweep: the RUNS are empty, also where their lines are free again.
func TestSweepEmptiesRuns(t *testing.T) {
	a := arena.New(3)
	holds(t, a, step{'A', 5, 0}, step{'A', 20, 512}, step{'F', 5, 256})
	a.Sweep()
	holds(t, a, step{'A', 5, 0}, step{'F', 5, 512}, step{'A', 20, 256})
	a.Mark(0, 3*blockWords)
	a.Sweep()
	holds(t, a, step{'A', 1, none}, step{'A', 17, none}, step{'F', 1, none})
}

// P14.3, Sweep: NEXT is 0.
func TestSweepSetsNext(t *testing.T) {
	a := drawn("################|....############")
	holds(t, a, step{'A', 1, 256})
	a.Mark(256, 1)
	a.Sweep()
	holds(t, a, step{'A', 1, 0}, step{'A', 16, 1})
	a.Mark(blockWords, blockWords)
	a.Sweep()
	holds(t, a, step{'A', 7, 0}, step{'F', 7, none})
}

// P14.3: what is MARKED behind a Sweep counts at the next one.
func TestMarksCountOnce(t *testing.T) {
	a := arena.New(1)
	a.Mark(16, 16)
	a.Sweep()
	a.Mark(32, 16)
	a.Mark(16, 1)
	a.Sweep()
	a.Mark(32, 1)
	if got := picture(t, a); got != lined(1, 2) {
		t.Error(got)
	}
}

// P14.3, Free: of each block; 0, if there is no such one. Empty.
func TestFree(t *testing.T) {
	a := drawn("................|################|#..............#|.......##.......|................|...............#|#...............")
	if got := free(a); !slices.Equal(got, []int{16, 0, 14, 14, 16, 15, 15}) {
		t.Errorf("%v", got)
	}
	if got := a.Empty(); got != 2 {
		t.Errorf("%d empty", got)
	}
	for _, block := range []int{math.MinInt, math.MinInt + 1, -256, -7, -1, 7, 8, 16, 112, 1792, maxBlocks, 1 << 32, 1 << 60, 1 << 62, math.MaxInt - 1, math.MaxInt} {
		if got := a.Free(block); got != 0 {
			t.Errorf("Free of %d: %d", block, got)
		}
	}
	if got := arena.New(math.MaxInt).Free(maxBlocks); got != 0 {
		t.Errorf("Free of %d: %d", maxBlocks, got)
	}
}

// P14.3, Free and Empty: each line by itself, of the first block, of one between, and of the last.
func TestFreeOfEachLine(t *testing.T) {
	const blocks = 3
	for line := range blocks * blockLines {
		a := drawn(lined(blocks, line))
		want := []int{16, 16, 16}
		want[line/blockLines]--
		if got := free(a); !slices.Equal(got, want) || a.Empty() != 2 {
			t.Errorf("the line %d: %v, %d empty", line, got, a.Empty())
		}
	}
}
