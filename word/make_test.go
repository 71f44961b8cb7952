package word_test

import (
	"math"
	"testing"

	"distaff/api"
	"distaff/word"
)

func TestEnds(t *testing.T) {
	if word.Least() != least || word.Most() != most {
		t.Errorf("from %d to %d", word.Least(), word.Most())
	}
}

// P13.1: Small answers a word from Least to Most.
func TestSmall(t *testing.T) {
	for _, n := range []int{
		least, least + 1, least + 2, least / 2, -1 << 32, -maxNum, -4, -3, -2, -1,
		0, 1, 2, 3, 4, 5, 6, 7, 8, maxNum, maxNum + 1, 1 << 32, most / 2, most - 2, most - 1, most,
	} {
		w, ok := word.Small(n)
		if !ok || int64(w) != int64(n)*8 {
			t.Errorf("Small of %d: %X %t", n, w, ok)
		}
		if word.Kind(w) != smallTag || word.Value(w) != n {
			t.Errorf("Small of %d: the kind %d, the value %d", n, word.Kind(w), word.Value(w))
		}
	}
}

// P13.1: Small answers 0 and false beside its ends.
func TestNotSmall(t *testing.T) {
	for _, n := range []int{
		math.MinInt, math.MinInt + 1, -1<<62 - 1, -1 << 62, -1<<61 - 1, -1 << 61, least - 8, least - 2, least - 1,
		most + 1, most + 2, most + 9, 1<<61 - 1, 1 << 61, 1<<61 + 1, 1 << 62, 1<<62 + 1, math.MaxInt - 1, math.MaxInt,
	} {
		if w, ok := word.Small(n); w != 0 || ok {
			t.Errorf("Small of %d: %X %t", n, w, ok)
		}
	}
}

// P13.1: of other numbers the lowest 61 bits are taken.
func TestLowestBits(t *testing.T) {
	const all = 1<<61 - 1
	for _, c := range []struct {
		n     int
		value int
	}{
		{0, 0}, {1, 1}, {2, 2}, {7, 7}, {8, 8}, {maxNum, maxNum}, {maxNum + 1, maxNum + 1},
		{most, most}, {most + 1, most + 1}, {all - 1, all - 1}, {all, all},
		{all + 1, 0}, {all + 2, 1}, {all + 9, 8}, {1 << 62, 0}, {1<<62 + 3, 3}, {3 << 61, 0}, {3<<61 + 5, 5}, {math.MaxInt, all},
		{-1, all}, {-2, all - 1}, {-maxNum, all - maxNum + 1}, {least, 1 << 60}, {least - 1, 1<<60 - 1}, {least + 1, 1<<60 + 1},
		{-1 << 61, 0}, {-1<<61 + 4, 4}, {-1<<61 - 1, all}, {-1 << 62, 0}, {math.MinInt, 0}, {math.MinInt + 6, 6},
	} {
		for _, m := range makers() {
			w := m.of(c.n)
			if want := laid(uint64(c.value), m.tag); w != want {
				t.Errorf("%s of %d: %X, not %X", m.name, c.n, w, want)
			}
			if word.Kind(w) != m.tag || word.Value(w) != c.value {
				t.Errorf("%s of %d: the kind %d, the value %d", m.name, c.n, word.Kind(w), word.Value(w))
			}
		}
	}
}

// P13.1: Kind is the tag, whatever the bits above it are, also 6 and 7.
func TestKind(t *testing.T) {
	for _, bits := range []uint64{0, 1, 5, 6, 7, 8, maxNum, maxNum + 1, 1 << 59, 1 << 60, 1<<60 + 1, 1<<61 - 1} {
		for tag := range 8 {
			if got := word.Kind(laid(bits, tag)); got != tag {
				t.Errorf("Kind of the tag %d with %X above it: %d", tag, bits, got)
			}
		}
	}
}

// P13.1: Value is a two's complement number of a SMALL word, and not negative of all others, also of 6 and 7.
func TestValue(t *testing.T) {
	for _, c := range []struct {
		bits  uint64
		small int
	}{
		{0, 0}, {1, 1}, {7, 7}, {8, 8}, {maxNum, maxNum}, {maxNum + 1, maxNum + 1},
		{1<<60 - 2, most - 1}, {1<<60 - 1, most}, {1 << 60, least}, {1<<60 + 1, least + 1},
		{1<<61 - maxNum, -maxNum}, {1<<61 - 8, -8}, {1<<61 - 2, -2}, {1<<61 - 1, -1},
	} {
		if got := word.Value(laid(c.bits, smallTag)); got != c.small {
			t.Errorf("Value of a SMALL word of the bits %X: %d", c.bits, got)
		}
		for tag := 1; tag < 8; tag++ {
			if got := word.Value(laid(c.bits, tag)); got != int(c.bits) {
				t.Errorf("Value of a word of the tag %d and the bits %X: %d", tag, c.bits, got)
			}
		}
	}
	if got := word.Value(^api.Word(0)); got != 1<<61-1 {
		t.Errorf("Value of all bits: %d", got)
	}
}
