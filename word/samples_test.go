package word_test

import (
	"math"

	"distaff/api"
	"distaff/word"
)

// The tags, as the section Types numbers them.
const (
	smallTag     = 0
	placeTag     = 1
	charTag      = 2
	symbolTag    = 3
	primitiveTag = 4
	singleTag    = 5
)

const (
	maxNum = 16777215
	least  = -1152921504606846976 // minus 2 to the power of 60
	most   = 1152921504606846975
)

// maker is a call that makes words of any number, and the tag that these have.
type maker struct {
	name string
	tag  int
	of   func(n int) api.Word
}

// makers is all such calls.
func makers() []maker {
	return []maker{
		{"Place", placeTag, word.Place},
		{"Char", charTag, word.Char},
		{"Symbol", symbolTag, word.Symbol},
		{"Prim", primitiveTag, word.Prim},
		{"Single", singleTag, word.Single},
	}
}

// laid is the word of a tag, and of the 61 bits above it.
func laid(bits uint64, tag int) api.Word { return api.Word(bits*8 + uint64(tag)) }

// numbers is numbers on both sides of each end that the chapter names, of the powers of 2, and of the ends of int.
func numbers() []int {
	list := []int{0, 1, 5, 6, 7, maxNum, maxNum + 1, least, least - 1, most, most + 1, math.MinInt, math.MaxInt}
	for power := range 63 {
		for off := -2; off <= 2; off++ {
			list = append(list, 1<<power+off, -1<<power+off)
		}
	}
	return list
}

// words is words of each tag, with each of the numbers' lowest 61 bits above it.
func words() []api.Word {
	var list []api.Word
	for _, n := range numbers() {
		for tag := range 8 {
			list = append(list, laid(uint64(n), tag))
		}
	}
	return list
}
