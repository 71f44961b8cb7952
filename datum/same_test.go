package datum_test

import (
	"math"
	"strconv"
	"strings"
	"testing"

	"distaff/api"
	"distaff/datum"
)

// P5.1: Same, Nodes, Copy, Num, Sym, List

// equal holds two data against each other field by field, floating numbers by their bits.
func equal(a, b api.Datum) bool {
	if a.Kind != b.Kind || a.N != b.N || a.Text != b.Text || len(a.Items) != len(b.Items) || len(a.Num.I.Limbs) != len(b.Num.I.Limbs) {
		return false
	}
	if a.Num.Float != b.Num.Float || math.Float64bits(a.Num.F) != math.Float64bits(b.Num.F) || a.Num.I.Neg != b.Num.I.Neg {
		return false
	}
	for i := range a.Num.I.Limbs {
		if a.Num.I.Limbs[i] != b.Num.I.Limbs[i] {
			return false
		}
	}
	for i := range a.Items {
		if !equal(a.Items[i], b.Items[i]) {
			return false
		}
	}
	return true
}

// same complains, if Same, either way round, has another answer.
func same(t *testing.T, what string, a, b api.Datum, want bool) {
	t.Helper()
	if got, back := datum.Same(a, b), datum.Same(b, a); got != want || back != want {
		t.Errorf("%s: %v, %v", what, got, back)
	}
}

func TestSameOfEachTwo(t *testing.T) {
	for i, a := range samples() {
		for j, b := range samples() {
			same(t, a.text+" and "+b.text, a.d, b.d, i == j)
			for _, way := range wraps() {
				same(t, "within: "+a.text+" and "+b.text, nested(2, a.d, way), nested(2, b.d, way), i == j)
			}
		}
	}
}

func TestSameAtBorders(t *testing.T) {
	l, again := borders(), borders()
	for i := range l {
		for j := range again {
			same(t, "borders "+strconv.Itoa(i)+" and "+strconv.Itoa(j), l[i].d, again[j].d, i == j)
		}
	}
}

// Data that differ in one place, wherever that is.
func TestSameAtEachPlace(t *testing.T) {
	a, b := sym("a"), sym("b")
	for place := range 30 {
		for _, kind := range []int{api.DList, api.DDot, api.DVec} {
			items, others := many(30, a), many(30, a)
			others[place] = b
			same(t, "Item "+strconv.Itoa(place), api.Datum{Kind: kind, Items: items}, api.Datum{Kind: kind, Items: others}, false)
			others[place] = sym("a")
			same(t, "Item "+strconv.Itoa(place), api.Datum{Kind: kind, Items: items}, api.Datum{Kind: kind, Items: others}, true)
		}
		text := strings.Repeat("\u03bb", place) + "a" + strings.Repeat("\u03bb", 29-place)
		same(t, "sign "+strconv.Itoa(place), str(text), str(strings.Replace(text, "a", "b", 1)), false)
		same(t, "sign "+strconv.Itoa(place), str(text), str(strings.Repeat("\u03bb", 30)), false)
		same(t, "depth "+strconv.Itoa(place), nested(place, a, wraps()...), nested(place, b, wraps()...), false)
		same(t, "depth "+strconv.Itoa(place), nested(place, a, wraps()...), nested(place+1, a, wraps()...), false)
		same(t, "length "+strconv.Itoa(place), list(many(place, a)...), list(many(place+1, a)...), false)
	}
}

func TestSameOfNumbers(t *testing.T) {
	nan, other := math.NaN(), math.Float64frombits(0xFFF8000000000123)
	same(t, "two that are not a number", floating(nan), floating(other), true)
	same(t, "two lists of what is not a number", list(floating(nan)), list(floating(other)), true)
	same(t, "0.0 and -0.0", floating(0), floating(math.Copysign(0, -1)), false)
	same(t, "0 and 0.0", exactly(false), floating(0), false)
	same(t, "1 and 1.0", exactly(false, 1), floating(1), false)
	same(t, "1 and -1", exactly(false, 1), exactly(true, 1), false)
	same(t, "1 and 2 to the power of 32", exactly(false, 1), exactly(false, 0, 1), false)
	same(t, "1 and 2 to the power of 32 and 1", exactly(false, 1), exactly(false, 1, 1), false)
}

func TestSameOfKinds(t *testing.T) {
	same(t, "a text and a symbol", str("a"), sym("a"), false)
	same(t, "a symbol and a text of a sign", sym("a"), char('a'), false)
	same(t, "a number and a sign", exactly(false, 1), char(1), false)
	same(t, "a truth and a sign", truth(1), char(1), false)
	same(t, "nothing and false", exactly(false), truth(0), false)
	same(t, "an empty list and an empty vector", list(), vec(), false)
	same(t, "an empty list and an empty text", list(), str(""), false)
	same(t, "a list and one with a tail", list(sym("a"), sym("b")), dot(sym("a"), sym("b")), false)
	same(t, "a list and a list of it", list(sym("a")), list(list(sym("a"))), false)
	same(t, "large and small letters", sym("a"), sym("A"), false)
}

// A list may be nil or empty: the two are one.
func TestSameOfEmptyLists(t *testing.T) {
	same(t, "lists", list(), api.Datum{Kind: api.DList, Items: []api.Datum{}}, true)
	same(t, "vectors", list(vec()), list(api.Datum{Kind: api.DVec, Items: make([]api.Datum, 0, 3)}), true)
	same(t, "Items of a symbol", sym("a"), api.Datum{Kind: api.DSym, Text: "a", Items: []api.Datum{}}, true)
	same(t, "limbs", exactly(false), api.Datum{Num: api.Num{I: api.Int{Limbs: []uint32{}}}}, true)
	same(t, "limbs of a sign", char('a'), api.Datum{Kind: api.DChar, N: 'a', Num: api.Num{I: api.Int{Limbs: []uint32{}}}}, true)
}

func TestNodes(t *testing.T) {
	for _, s := range append(samples(), borders()...) {
		if got := datum.Nodes(s.d); got != s.nodes {
			t.Errorf("%q: %d, not %d", s.text, got, s.nodes)
		}
	}
	for n := range 2999 {
		if got := datum.Nodes(list(many(n, vec())...)); got != n+1 {
			t.Errorf("a list of %d: %d", n, got)
		}
	}
}

func TestCopy(t *testing.T) {
	for i, s := range append(samples(), borders()...) {
		if got := datum.Copy(s.d); !equal(got, s.d) {
			t.Errorf("%d: %q has another copy", i, s.text)
		}
	}
	for _, bits := range []uint64{0x7FF8000000000001, 0xFFF8000000000123} {
		got := datum.Copy(list(floating(math.Float64frombits(bits))))
		if !datum.Same(got, list(floating(math.NaN()))) {
			t.Errorf("the copy of %x is another number", bits)
		}
	}
}

func TestNum(t *testing.T) {
	for _, c := range []struct {
		n    int
		want api.Datum
	}{
		{0, exactly(false)}, {1, exactly(false, 1)}, {-1, exactly(true, 1)}, {7, exactly(false, 7)}, {-360, exactly(true, 360)},
		{1<<32 - 1, exactly(false, math.MaxUint32)}, {1 << 32, exactly(false, 0, 1)}, {-1 << 32, exactly(true, 0, 1)}, {-1<<32 - 5, exactly(true, 5, 1)},
		{math.MaxInt, exactly(false, math.MaxUint32, math.MaxInt32)}, {math.MinInt, exactly(true, 0, 1<<31)}, {math.MinInt + 1, exactly(true, math.MaxUint32, math.MaxInt32)},
	} {
		got := datum.Num(c.n)
		if !equal(got, c.want) || !datum.Right(got) {
			t.Errorf("%d: %v", c.n, got)
		}
	}
}

// Sym makes a symbol of any text, be it a NAME or not.
func TestSym(t *testing.T) {
	for _, s := range []string{"a", "set!", "...", "", ".", "1", "-1.5", "+nan.0", " ", "a b", "\u03bb", "\x00", "\xff", strings.Repeat("a", 40), strings.Repeat("a", 41), strings.Repeat("\xfe", 1<<16)} {
		got := datum.Sym(s)
		if !equal(got, sym(s)) {
			t.Errorf("%q: %v", s, got)
		}
		if datum.Right(got) != datum.Name(s) {
			t.Errorf("%q: RIGHT without being a NAME, or the other way round", s)
		}
	}
}

func TestList(t *testing.T) {
	for _, got := range []api.Datum{datum.List(), datum.List([]api.Datum{}...), datum.List(nil...)} {
		if !equal(got, list()) {
			t.Errorf("a list of nothing: %v", got)
		}
	}
	var all []api.Datum
	for _, s := range samples() {
		if got := datum.List(s.d); !equal(got, list(s.d)) {
			t.Errorf("a list of %s: %v", s.text, got)
		}
		all = append(all, s.d)
		if got := datum.List(all...); !equal(got, list(all...)) {
			t.Errorf("a list up to %s: %v", s.text, got)
		}
	}
	if got := datum.List(datum.Sym("quote"), datum.List(datum.Num(1), datum.List())); !equal(got, list(sym("quote"), list(exactly(false, 1), list()))) {
		t.Errorf("a list of lists: %v", got)
	}
}

// RIGHT data can be made a list that isn't: by their NODES, their DEPTH.
func TestListOfMany(t *testing.T) {
	for _, want := range []api.Datum{
		list(many(2999, sym("a"))...), list(many(3000, sym("a"))...), list(many(1<<16+5, sym("a"))...), list(many(1<<18, list())...),
		list(many(50, list(many(2999, truth(1))...))...), list(nested(60, sym("a"), wraps()...)),
	} {
		if got := datum.List(want.Items...); !equal(got, want) {
			t.Errorf("a list of %d isn't that of its Items", len(want.Items))
		}
	}
}
