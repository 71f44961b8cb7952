package arena_test

import (
	"math"
	"slices"
	"testing"

	"distaff/arena"
)

// The section Examples.
func TestExamples(t *testing.T) {
	a := arena.New(1)
	for _, want := range []int{0, 10, 20} {
		if at, ok := a.Alloc(10); at != want || !ok {
			t.Errorf("Alloc of 10: %d %t, not %d", at, ok, want)
		}
	}
}

// P14.2: of words below 1 and above BlockWords there are none, and nothing changes.
func TestNoSuchNumber(t *testing.T) {
	for _, n := range []int{math.MinInt, math.MinInt + 1, -257, -256, -17, -16, -1, 0, 257, 258, 511, 512, 1 << 32, 1<<32 + 1, math.MaxInt - 1, math.MaxInt} {
		a := arena.New(2)
		holds(t, a, step{'A', n, none}, step{'F', n, none})
		if got := free(a); !slices.Equal(got, []int{16, 16}) {
			t.Errorf("of %d: %v lines are free", n, got)
		}
		holds(t, a, step{'A', 3, 0}, step{'A', 100, 256}, step{'A', n, none}, step{'F', n, none}, step{'A', 3, 3}, step{'A', 100, 356})
		a.Sweep()
		holds(t, a, step{'F', 100, 256}, step{'A', n, none}, step{'F', n, none}, step{'F', 100, 356})
	}
}

// P14.2: as many as there are at most and at least are from the RUNS that the chapter tells.
func TestEdgesOfNumbers(t *testing.T) {
	for _, c := range []struct {
		n          int
		alloc      int // of two blocks that are empty
		againAlloc int
		freshAgain int
	}{
		{1, 0, 1, 257}, {2, 0, 2, 258}, {15, 0, 15, 271}, {16, 0, 16, 272},
		{17, 256, 273, 273}, {18, 256, 274, 274}, {128, 256, 384, 384}, {129, 256, 0, 0}, {255, 256, 0, 0}, {256, 256, 0, 0},
	} {
		holds(t, arena.New(2), step{'A', c.n, c.alloc}, step{'A', c.n, c.againAlloc})
		holds(t, arena.New(2), step{'F', c.n, 256}, step{'F', c.n, c.freshAgain})
	}
}

// P14.2, SMALL: words come off its beginning, till it has too few; what is left is lost.
func TestSmall(t *testing.T) {
	for _, c := range []struct {
		what  string
		lines string
		steps []step
	}{
		{"one line after the other", dots, []step{{'A', 16, 0}, {'A', 16, 16}, {'A', 1, 32}, {'A', 16, 33}, {'A', 2, 49}}},
		{"across lines", dots, []step{{'A', 10, 0}, {'A', 10, 10}, {'A', 10, 20}, {'A', 16, 30}}},
		{"not across a hole's end", "#.#.############", []step{{'A', 10, 16}, {'A', 6, 26}, {'A', 10, 48}, {'A', 7, none}, {'A', 6, 58}, {'A', 1, none}}},
		{"what is left is lost", "#.#..###########", []step{{'A', 10, 16}, {'A', 7, 48}, {'A', 6, 55}, {'A', 16, 61}, {'A', 4, none}, {'A', 3, 77}}},
		{"nothing is lost where no hole is", "#.##############", []step{{'A', 10, 16}, {'A', 16, none}, {'A', 7, none}, {'A', 6, 26}}},
		{"a hole ends with its block", "###############. | .###############", []step{{'A', 10, 240}, {'A', 10, 256}, {'A', 6, 266}, {'A', 1, none}}},
		{"a hole begins with its block", "############.... | ................", []step{{'A', 16, 192}, {'A', 16, 208}, {'A', 16, 224}, {'A', 15, 240}, {'A', 2, 256}, {'A', 1, 258}}},
		{"behind blocks that are TAKEN", sharps + sharps + "#############.#.", []step{{'A', 16, 720}, {'A', 16, 752}, {'A', 1, none}}},
		{"the first of several", "##..#...#....... | ................", []step{{'A', 16, 32}, {'A', 16, 48}, {'A', 16, 80}, {'A', 16, 96}, {'A', 16, 112}, {'A', 1, 144}}},
		{"all is TAKEN", sharps, []step{{'A', 1, none}, {'A', 16, none}}},
	} {
		t.Run(c.what, func(t *testing.T) { holds(t, drawn(c.lines), c.steps...) })
	}
}

// P14.2: all of a HOLE is TAKEN at once, and nothing else.
func TestTaken(t *testing.T) {
	for _, c := range []struct {
		lines string
		call  byte
		n     int
		want  []int // of each block the free lines
	}{
		{dots + dots, 'A', 1, []int{0, 16}},
		{dots + dots, 'A', 16, []int{0, 16}},
		{dots + dots, 'A', 17, []int{16, 0}},
		{dots + dots, 'A', 256, []int{16, 0}},
		{dots + dots, 'F', 1, []int{16, 0}},
		{dots + dots, 'F', 256, []int{16, 0}},
		{"#..#.........### | ................", 'A', 1, []int{9, 16}},
		{"#..#.........### | ................", 'A', 17, []int{11, 0}},
		{"#..#.........### | #...............", 'A', 17, []int{9, 15}},
		{"#..#.........### | #...............", 'A', 33, []int{2, 15}},
		{"#..#.........### | #...............", 'A', 145, []int{11, 0}},
		{"#..#.........### | #...............", 'A', 241, []int{11, 15}},
		{"#..#.........### | #...............", 'F', 1, []int{11, 15}},
	} {
		a := drawn(c.lines)
		asked(t, a, c.call, c.n)
		if got := free(a); !slices.Equal(got, c.want) {
			t.Errorf("%s, %c of %d: %v lines are free, not %v", c.lines, c.call, c.n, got, c.want)
		}
	}
}

// P14.2, NEXT: HOLES are looked for behind the one that was taken last as SMALL.
func TestNext(t *testing.T) {
	holds(t, drawn("..#.#...........|................"),
		step{'A', 16, 0}, step{'A', 16, 16}, // all of the first one
		step{'A', 16, 48},
		step{'A', 5, 80}, step{'A', 200, 256}, step{'A', 16, 85},
		step{'A', 16, 101}, step{'A', 16, 117}, step{'A', 16, 133}, step{'A', 16, 149}, step{'A', 16, 165},
		step{'A', 16, 181}, step{'A', 16, 197}, step{'A', 16, 213}, step{'A', 16, 229},
		step{'A', 12, none}, // eleven are left here, and the block behind is GREAT
		step{'A', 11, 245}, step{'A', 1, none},
		step{'A', 56, 456}, step{'A', 17, none})
}

// P14.2: a block that is taken as GREAT or COPY is no HOLE any more, neither ahead of NEXT nor behind it.
func TestSmallStepsOverOtherRuns(t *testing.T) {
	a := drawn("................|..#.............|................|................")
	holds(t, a, step{'A', 17, 768}, step{'F', 1, 512}, step{'F', 256, 0})
	holds(t, a, step{'A', 16, 256}, step{'A', 16, 272}, step{'A', 16, 304}, step{'A', 239, 785}, step{'A', 16, 320})
	if got := free(a); !slices.Equal(got, []int{0, 0, 0, 0}) {
		t.Errorf("%v", got)
	}
}

// P14.2, GREAT: the last block of which no line is TAKEN, else the first HOLE that is long enough.
func TestGreat(t *testing.T) {
	for _, c := range []struct {
		what  string
		lines string
		steps []step
	}{
		{"the last block", dots + dots + dots, []step{{'A', 17, 512}, {'A', 100, 529}, {'A', 139, 629}, {'A', 17, 256}, {'A', 239, 273}, {'A', 240, 0}}},
		{"what is left is lost", dots + dots, []step{{'A', 200, 256}, {'A', 57, 0}, {'A', 56, 57}, {'A', 56, 113}, {'A', 88, none}, {'A', 87, 169}}},
		{"nothing is lost where no hole is", dots, []step{{'A', 200, 0}, {'A', 57, none}, {'A', 56, 200}}},
		{"a block ahead of its holes", "................|...............#|#...............", []step{{'A', 17, 0}, {'A', 240, 256}, {'A', 240, 528}, {'A', 17, none}}},
		{"the first hole of so many words", "..#...#.###..... | #.....#........#", []step{{'A', 33, 48}, {'A', 80, 176}, {'A', 80, 272}, {'A', 81, 368}, {'A', 47, 449}, {'A', 33, none}}},
		{"of just so many", "..#...##########", []step{{'A', 49, none}, {'A', 48, 48}, {'A', 17, 0}, {'A', 15, none}, {'A', 17, none}}},
		{"no line alone", ".#.#.#.#.#.#.#.#", []step{{'A', 17, none}, {'A', 16, 0}}},
		{"no hole of two blocks", "###############.|.###############|#...............", []step{{'A', 17, 528}, {'A', 32, 545}, {'A', 192, none}, {'A', 191, 577}}},
		{"all of a block", dots, []step{{'A', 256, 0}, {'A', 256, none}, {'A', 1, none}}},
		{"all is TAKEN", sharps, []step{{'A', 17, none}, {'A', 256, none}}},
	} {
		t.Run(c.what, func(t *testing.T) { holds(t, drawn(c.lines), c.steps...) })
	}
}

// P14.2: SMALL and GREAT don't take from one another: 15 and 17 words come from two RUNS.
func TestRunsByThemselves(t *testing.T) {
	holds(t, arena.New(3),
		step{'A', 15, 0}, step{'A', 17, 512}, step{'F', 15, 256},
		step{'A', 15, 15}, step{'A', 17, 529}, step{'F', 17, 271},
		step{'A', 226, none}, step{'F', 225, none}, step{'A', 222, 546}, step{'F', 224, 288},
		step{'A', 16, 30}, step{'A', 17, none}, step{'F', 1, none}, step{'A', 16, 46})
}

// P14.2, Fresh: blocks of which no line is TAKEN alone, from the last one on.
func TestFresh(t *testing.T) {
	for _, c := range []struct {
		what  string
		lines string
		steps []step
	}{
		{"the last block", dots + dots + dots, []step{{'F', 1, 512}, {'F', 16, 513}, {'F', 17, 529}, {'F', 222, 546}, {'F', 1, 256}, {'F', 256, 0}, {'F', 256, none}}},
		{"what is left is lost", dots + dots, []step{{'F', 200, 256}, {'F', 57, 0}, {'F', 56, 57}, {'F', 144, none}, {'F', 143, 113}}},
		{"no other holes", "#...............|...............#", []step{{'F', 1, none}, {'F', 16, none}, {'F', 17, none}, {'A', 1, 16}}},
		{"an empty one ahead of others", "................|...............#", []step{{'F', 100, 0}, {'F', 157, none}, {'F', 156, 100}, {'F', 1, none}}},
		{"nothing is lost where no block is", dots, []step{{'F', 200, 0}, {'F', 57, none}, {'F', 16, 200}, {'F', 40, 216}}},
		{"all is TAKEN", sharps, []step{{'F', 1, none}, {'F', 256, none}}},
	} {
		t.Run(c.what, func(t *testing.T) { holds(t, drawn(c.lines), c.steps...) })
	}
}

// P14.2: one call after the other, till nothing is left, at all numbers of words.
func TestTillNothingIsLeft(t *testing.T) {
	const blocks = 3
	for n := 1; n <= blockWords; n++ {
		for _, call := range []byte{'A', 'F'} {
			a := arena.New(blocks)
			for i := range blockWords / n * blocks {
				block := blocks - 1 - i/(blockWords/n) // the last one first
				if call == 'A' && n <= lineWords {
					block = blocks - 1 - block
				}
				holds(t, a, step{call, n, block*blockWords + i%(blockWords/n)*n})
			}
			holds(t, a, step{call, n, none})
		}
	}
}

// P14.2: of as many blocks as there can be: holes of one line each, one behind the other.
func TestManyHoles(t *testing.T) {
	a := arena.New(maxBlocks)
	for line := 0; line < maxBlocks*blockLines; line += 2 {
		a.Mark(line*lineWords, 1)
	}
	a.Sweep()
	for line := 1; line < maxBlocks*blockLines; line += 2 {
		holds(t, a, step{'A', 9, line * lineWords})
	}
	holds(t, a, step{'A', 8, none}, step{'A', 7, (maxBlocks*blockLines-1)*lineWords + 9}, step{'A', 17, none}, step{'F', 1, none})
}
