package word_test

import (
	"testing"

	"distaff/api"
	"distaff/word"
)

// told is all that is to be told of a number and of a word.
type told struct {
	small                             api.Word
	isSmall                           bool
	place, char, symbol, prim, single api.Word
	kind, value                       int
	right                             bool
	least, most                       int
}

// tell asks each call that the chapter lists.
func tell(n int, w api.Word) told {
	small, isSmall := word.Small(n)
	return told{
		small, isSmall,
		word.Place(n), word.Char(n), word.Symbol(n), word.Prim(n), word.Single(n),
		word.Kind(w), word.Value(w), word.Right(w),
		word.Least(), word.Most(),
	}
}

// P1: all numbers and words come to an end. P2: they come to the same again, whatever was asked between.
func TestSameAgain(t *testing.T) {
	list := numbers()
	var first []told
	for i, w := range words() {
		first = append(first, tell(list[i%len(list)], w))
	}
	all := words()
	for i := len(all) - 1; i >= 0; i-- {
		if got := tell(list[i%len(list)], all[i]); got != first[i] {
			t.Errorf("of %d and %X: %v, then %v", list[i%len(list)], all[i], first[i], got)
		}
	}
}

// P1: numbers and words along the whole range, in even steps.
func TestAllAlongTheRange(t *testing.T) {
	const steps = 1 << 14
	for i := range uint64(steps) {
		at := i * (1<<64/steps + 1)
		got := tell(int(at), api.Word(at))
		if got.kind < 0 || got.kind > 7 || got.value < least || got.value > 1<<61-1 || got.right && got.kind > singleTag {
			t.Errorf("of %X: %v", at, got)
		}
	}
}
