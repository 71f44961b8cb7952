package datum_test

import (
	"strconv"
	"strings"
	"testing"

	"distaff/api"
	"distaff/datum"
)

// Types, and P5.1: Right

// right complains, if Right has another answer. A text is told only if it is asked for: some are long, some endless.
func right(t *testing.T, what string, d api.Datum, want bool) {
	t.Helper()
	if got := datum.Right(d); got != want {
		t.Errorf("%s: %v", what, got)
	}
}

func TestRightData(t *testing.T) {
	for _, s := range samples() {
		right(t, s.text, s.d, true)
		for _, way := range wraps() {
			right(t, "within: "+s.text, way(s.d), true)
		}
		if s.d.Kind != api.DList && s.d.Kind != api.DDot {
			right(t, "as tail: "+s.text, dot(list(), s.d), true)
		}
	}
	right(t, "the zero value", api.Datum{}, true)
}

func TestRightAtBorders(t *testing.T) {
	for i, s := range borders() {
		right(t, "border "+strconv.Itoa(i), s.d, true)
	}
}

func TestRightOfWrongData(t *testing.T) {
	for i, w := range wrongs() {
		right(t, w.by+" "+strconv.Itoa(i), w.d, false)
	}
}

// An empty list is none.
func TestRightOfEmptyLists(t *testing.T) {
	for _, s := range samples() {
		d := s.d
		if len(d.Items) == 0 {
			d.Items = []api.Datum{}
		}
		if len(d.Num.I.Limbs) == 0 {
			d.Num.I.Limbs = make([]uint32, 0, 4)
		}
		right(t, s.text, d, true)
	}
}

func TestRightAtEachSign(t *testing.T) {
	for n := -300; n <= 0x110000+300; n++ {
		want := n >= 0 && n <= 0x10FFFF && !(n >= 0xD800 && n <= 0xDFFF)
		if right(t, "sign "+strconv.Itoa(n), char(n), want); t.Failed() {
			return
		}
		if want {
			right(t, "a text of sign "+strconv.Itoa(n), str(string(rune(n))), true)
		}
	}
}

func TestRightAtTruths(t *testing.T) {
	for n := -300; n <= 300; n++ {
		right(t, "truth "+strconv.Itoa(n), truth(n), n == 0 || n == 1)
	}
}

// How long a text is counts in SIGNS, not in bytes.
func TestRightAtLengthsOfTexts(t *testing.T) {
	for _, sign := range []string{"a", "\x00", "\u03bb", "\u20ac", "\uFFFD", "\U0010FFFF"} {
		for _, n := range []int{0, 1, 100, 101, 133, 134, 200, 201, 399, 400, 401, 402, 800, 1600} {
			right(t, strconv.Quote(sign)+" "+strconv.Itoa(n), str(strings.Repeat(sign, n)), n <= 400)
		}
	}
	right(t, "400 of one byte and of four", str(strings.Repeat("a\U0001F600", 200)), true)
	right(t, "401 of one byte and of four", str(strings.Repeat("a\U0001F600", 200)+"a"), false)
}

func TestRightAtLengthsOfLists(t *testing.T) {
	for n := range 3100 {
		items := many(n, sym("a"))
		if n < 210 || n > 2900 {
			right(t, "a list of "+strconv.Itoa(n), list(items...), n <= 2999)
			right(t, "a list with a tail of "+strconv.Itoa(n), dot(items...), n >= 2 && n <= 2999)
			right(t, "a vector of "+strconv.Itoa(n), vec(items...), n <= 200)
		}
	}
}

func TestRightAtDepths(t *testing.T) {
	a := sym("a")
	for i, way := range wraps() {
		for n := range 70 {
			what := strconv.Itoa(i) + " at depth " + strconv.Itoa(n)
			right(t, what, nested(n, a, way), n <= 60)
			right(t, what+" and one more", nested(n, vec(), way), n <= 59)
			right(t, what+" behind another", list(list(), nested(n, a, way)), n <= 59)
			right(t, what+" ahead of another", dot(nested(n, a, way), a), n <= 59)
		}
	}
}

// A list, with or without a tail, is no tail; all else is.
func TestRightAtTails(t *testing.T) {
	for _, s := range samples() {
		can := s.d.Kind != api.DList && s.d.Kind != api.DDot
		right(t, s.text, dot(sym("a"), s.d), can)
		right(t, s.text, dot(list(), dot(sym("a"), sym("b")), s.d), can)
		right(t, s.text, dot(s.d, sym("a")), true)
		right(t, s.text+" alone", dot(s.d), false)
	}
}
