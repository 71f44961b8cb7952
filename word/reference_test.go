package word_test

import (
	"fmt"
	"math/rand"
	"strconv"
	"testing"

	"distaff/api"
	"distaff/word"
)

// signs is a number's 64 bits as a text of 0 and 1, the highest first.
func signs(n uint64) string { return fmt.Sprintf("%064b", n) }

// read is the number that a text of 0 and 1 tells.
func read(s string) uint64 {
	n, err := strconv.ParseUint(s, 2, 64)
	if err != nil {
		panic(err)
	}
	return n
}

// spelt is the word of a tag and of a number's lowest 61 bits, put together as texts.
func spelt(n, tag int) api.Word {
	return api.Word(read(signs(uint64(n))[3:] + signs(uint64(tag))[61:]))
}

// speltKind is the number of a word's last three bits.
func speltKind(w api.Word) int { return int(read(signs(uint64(w))[61:])) }

// speltValue is the number of a word's first 61 bits, of which the first counts below nothing in a SMALL one.
func speltValue(w api.Word) int {
	bits := signs(uint64(w))[:61]
	n := int(read(bits[1:]))
	if bits[0] == '0' {
		return n
	}
	if speltKind(w) == smallTag {
		return n + least
	}
	return n - least
}

// speltRight is whether a word can be, by the kinds' greatest numbers.
func speltRight(w api.Word) bool {
	greatest := []int{most, maxNum, maxNum, maxNum, maxNum, 5, -1, -1}
	return speltValue(w) <= greatest[speltKind(w)]
}

// alike complains, if the calls and the texts of bits differ at a word.
func alike(t *testing.T, w api.Word) {
	t.Helper()
	if word.Kind(w) != speltKind(w) || word.Value(w) != speltValue(w) || word.Right(w) != speltRight(w) {
		t.Errorf("of the word %X: %d %d %t", w, word.Kind(w), word.Value(w), word.Right(w))
	}
}

// made complains, if the calls and the texts of bits differ at a number; it answers whether that is a small one.
func made(t *testing.T, n int) bool {
	t.Helper()
	for _, m := range makers() {
		if w := m.of(n); w != spelt(n, m.tag) {
			t.Errorf("%s of %d: %X", m.name, n, w)
		}
	}
	want := speltValue(spelt(n, smallTag)) == n
	w, ok := word.Small(n)
	if ok != want || ok && w != spelt(n, smallTag) || !ok && w != 0 {
		t.Errorf("Small of %d: %X %t", n, w, ok)
	}
	return want
}

func TestEdgesHeldAgainstBits(t *testing.T) {
	for _, w := range words() {
		alike(t, w)
	}
	for _, n := range numbers() {
		made(t, n)
	}
}

// Any 64 bits, long and short ones of both signs.
func TestChance(t *testing.T) {
	chance := rand.New(rand.NewSource(13))
	var kinds [8]int
	var right, small [2]int
	for range 100000 {
		bits := uint64(int64(chance.Uint64()) >> chance.Intn(64))
		alike(t, api.Word(bits))
		kinds[word.Kind(api.Word(bits))]++
		right[count(word.Right(api.Word(bits)))]++
		small[count(made(t, int(bits)))]++
	}
	for tag, n := range kinds {
		if n < 1000 {
			t.Errorf("only %d words of the tag %d", n, tag)
		}
	}
	if min(right[0], right[1], small[0], small[1]) < 1000 {
		t.Errorf("right %d, small %d", right, small)
	}
}

// count is 1 of what holds.
func count(holds bool) int {
	if holds {
		return 1
	}
	return 0
}
