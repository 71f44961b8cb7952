package arena_test

import (
	"math"
	"strings"
	"testing"

	"distaff/api"
	"distaff/arena"
)

const (
	blockWords = 256
	lineWords  = 16
	blockLines = 16
	maxBlocks  = 4096
)

const (
	dots   = "................"
	sharps = "################"
)

// drawn is an arena whose lines are TAKEN as a text says: a # for each that is, a dot for each that isn't. Blanks and | don't count.
func drawn(text string) *arena.Arena {
	text = strings.NewReplacer(" ", "", "|", "").Replace(text)
	if len(text)%blockLines != 0 {
		panic("no whole blocks: " + text)
	}
	a := arena.New(len(text) / blockLines)
	for line, sign := range text {
		if sign == '#' {
			a.Mark(line*lineWords, 1)
		}
	}
	a.Sweep()
	return a
}

// none stands for 0 and false where a step's place is told.
const none = -1

// step is a call that tells a place, and that place.
type step struct {
	call byte // A is Alloc, F is Fresh
	n    int
	want int
}

// asked is the place that a call tells; 0 and false are none.
func asked(t *testing.T, a *arena.Arena, call byte, n int) int {
	t.Helper()
	do := a.Alloc
	if call == 'F' {
		do = a.Fresh
	}
	at, ok := do(n)
	if !ok && at != 0 {
		t.Errorf("%c of %d: %d and false", call, n, at)
	}
	if !ok {
		return none
	}
	return at
}

// holds makes steps, and complains of the places that aren't told as they should.
func holds(t *testing.T, a *arena.Arena, steps ...step) {
	t.Helper()
	for i, s := range steps {
		if got := asked(t, a, s.call, s.n); got != s.want {
			t.Fatalf("step %d, %c of %d: %d, not %d", i, s.call, s.n, got, s.want)
		}
	}
}

// free is how many lines of each block aren't TAKEN.
func free(a *arena.Arena) []int {
	var list []int
	for block := range a.Blocks() {
		list = append(list, a.Free(block))
	}
	return list
}

// picture is which lines of an arena are MARKED: a text as drawn takes it. It Sweeps, and spoils the arena.
func picture(t *testing.T, a *arena.Arena) string {
	t.Helper()
	a.Sweep()
	signs := []byte(strings.Repeat("#", a.Blocks()*blockLines))
	for {
		at, ok := a.Alloc(lineWords)
		if !ok {
			break
		}
		if at%lineWords != 0 {
			t.Fatalf("16 words at %d", at)
		}
		signs[at/lineWords] = '.'
	}
	return string(signs)
}

// ends is numbers on both sides of each end that the chapter names, and of the ends of int.
func ends() []int {
	list := []int{math.MinInt, math.MinInt + 1, -1 << 62, -maxBlocks * blockWords, math.MaxInt - 1, math.MaxInt, 1 << 62, 1<<32 + 1}
	for _, n := range []int{0, lineWords, blockWords, blockWords * 2, maxBlocks, api.MaxNum, maxBlocks * blockWords} {
		for off := -2; off <= 2; off++ {
			list = append(list, n+off, -n+off)
		}
	}
	return list
}
