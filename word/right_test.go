package word_test

import (
	"testing"

	"distaff/word"
)

// rightUpTo complains, unless words of a tag are right up to a number, and no further.
func rightUpTo(t *testing.T, tag int, last uint64) {
	t.Helper()
	for _, bits := range []uint64{
		0, 1, 2, 3, 4, 5, 6, 7, 8, 9, 255, 256, 0xD7FF, 0xD800, 0xDFFF, 0xE000, 0x10FFFF, 0x110000,
		maxNum - 1, maxNum, maxNum + 1, 2*maxNum + 1, 1<<31 - 1, 1 << 31, 1 << 32, 1<<32 + 1, 1<<60 - 1, 1 << 60, 1<<60 + 1, 1<<61 - 2, 1<<61 - 1,
	} {
		if got, want := word.Right(laid(bits, tag)), bits <= last; got != want {
			t.Errorf("Right of the tag %d and the bits %X: %t", tag, bits, got)
		}
	}
}

// P13.2: the TAG from 0 to 5; of a PLACE, CHAR, SYMBOL or PRIMITIVE at most MaxNum, of a SINGLE from 0 to 5, of a SMALL one any.
func TestRight(t *testing.T) {
	rightUpTo(t, smallTag, 1<<61-1)
	for _, tag := range []int{placeTag, charTag, symbolTag, primitiveTag} {
		rightUpTo(t, tag, maxNum)
	}
	rightUpTo(t, singleTag, 5)
}

func TestOtherTagsAreNotRight(t *testing.T) {
	for _, tag := range []int{6, 7} {
		for bits := range uint64(300) {
			if word.Right(laid(bits, tag)) || word.Right(laid(1<<61-1-bits, tag)) {
				t.Errorf("Right of the tag %d and the bits %X, or as far from the end", tag, bits)
			}
		}
	}
}

// P13.2, of what the calls make: of numbers that aren't from 0 to MaxNum (5 of a SINGLE) it hangs on the lowest 61 bits.
func TestRightOfWhatIsMade(t *testing.T) {
	for _, n := range numbers() {
		if w, ok := word.Small(n); ok && !word.Right(w) {
			t.Errorf("Small of %d is not right", n)
		}
		for _, m := range makers() {
			last := uint64(maxNum)
			if m.tag == singleTag {
				last = 5
			}
			if got, want := word.Right(m.of(n)), uint64(n)%(1<<61) <= last; got != want {
				t.Errorf("%s of %d: right %t", m.name, n, got)
			}
		}
	}
}
