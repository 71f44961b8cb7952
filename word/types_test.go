package word_test

import (
	"testing"

	"distaff/api"
	"distaff/word"
)

// The section Types: a word is its tag, and above that the bits of its number.
func TestTypes(t *testing.T) {
	small := func(n int) api.Word {
		w, ok := word.Small(n)
		if !ok {
			t.Errorf("Small of %d: false", n)
		}
		return w
	}
	for _, c := range []struct {
		what string
		got  api.Word
		want api.Word
	}{
		{"the number 0", small(0), 0},
		{"the number 1", small(1), 0x8},
		{"the number -1", small(-1), 0xFFFFFFFFFFFFFFF8},
		{"the number -2", small(-2), 0xFFFFFFFFFFFFFFF0},
		{"the number 1000", small(1000), 0x1F40},
		{"the least number", small(least), 0x8000000000000000},
		{"the greatest number", small(most), 0x7FFFFFFFFFFFFFF8},
		{"the place 0", word.Place(0), 0x1},
		{"the place 1", word.Place(1), 0x9},
		{"the place 1048575", word.Place(1048575), 0x7FFFF9},
		{"the sign A", word.Char('A'), 0x20A},
		{"the sign of the code point 0", word.Char(0), 0x2},
		{"the sign of the code point 1F600", word.Char(0x1F600), 0xFB002},
		{"the greatest sign", word.Char(0x10FFFF), 0x87FFFA},
		{"the symbol 0", word.Symbol(0), 0x3},
		{"the symbol 258", word.Symbol(258), 0x813},
		{"the primitive 0", word.Prim(0), 0x4},
		{"the primitive 70", word.Prim(70), 0x234},
		{"false", word.Single(0), 0x5},
		{"true", word.Single(1), 0xD},
		{"the empty list", word.Single(2), 0x15},
		{"void", word.Single(3), 0x1D},
		{"the end of input", word.Single(4), 0x25},
		{"nothing yet", word.Single(5), 0x2D},
	} {
		if c.got != c.want {
			t.Errorf("%s: the word %X, not %X", c.what, c.got, c.want)
		}
	}
}

// All words of the kinds 0 to 5 differ from one another, if their kinds or their numbers do.
func TestWordsDiffer(t *testing.T) {
	seen := map[api.Word]string{}
	differ := func(w api.Word, what string) {
		if seen[w] != "" {
			t.Errorf("%s and %s are one word, %X", seen[w], what, w)
		}
		seen[w] = what
	}
	for n := range 2000 {
		for _, c := range makers() {
			differ(c.of(n), c.name)
		}
		w, _ := word.Small(n - 1000)
		differ(w, "Small")
	}
}

// 6 and 7 are none: no call makes such a word.
func TestNoneMakesOtherTags(t *testing.T) {
	for _, n := range numbers() {
		for _, c := range makers() {
			if w := c.of(n); w%8 == 6 || w%8 == 7 {
				t.Errorf("%s of %d: the word %X", c.name, n, w)
			}
		}
		if w, _ := word.Small(n); w%8 != smallTag {
			t.Errorf("Small of %d: the word %X", n, w)
		}
	}
}

// The section Examples.
func TestExamples(t *testing.T) {
	all := ^api.Word(0)
	if w, ok := word.Small(-1); w != all-7 || !ok {
		t.Errorf("Small of -1: %X %t", w, ok)
	}
}
