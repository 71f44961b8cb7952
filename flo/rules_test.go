package flo_test

import (
	"math"
	"math/big"
	"slices"
	"testing"

	"distaff/api"
	"distaff/flo"
)

// roomy is a number with spare room, and its limbs with the room.
func roomy(x api.Int) (number api.Int, whole []uint32) {
	whole = append(slices.Clone(x.Limbs), 3735928559, 0, 1, 4294967295)
	return api.Int{Neg: x.Neg, Limbs: whole[:len(x.Limbs)]}, whole
}

// stay complains, if Of or Cmp changes what it is given.
func stay(t *testing.T, x api.Int) {
	t.Helper()
	number, whole := roomy(x)
	before := slices.Clone(whole)
	flo.Of(number)
	for _, f := range []float64{0, minusZero(), 0.5, -1e300, greatest, math.Inf(1), math.Inf(-1), math.NaN()} {
		flo.Cmp(number, f)
	}
	if !slices.Equal(whole, before) {
		t.Errorf("a number of %d limbs has been changed", len(x.Limbs))
	}
}

func TestArgumentsStay(t *testing.T) {
	for _, n := range wholes() {
		stay(t, of(t, n))
		stay(t, of(t, n.Neg(n)))
	}
	stay(t, of(t, bit(2048, -1)))
}

// P1: numbers that aren't RIGHT come to an end as well, and stay as they are.
func TestOddNumbersEnd(t *testing.T) {
	for _, limbs := range [][]uint32{
		nil, {0}, {0, 0}, {0, 0, 0}, {0, 0, 0, 0}, {3, 0}, {3, 0, 0, 0}, {0, 1, 0}, {1, 2, 3, 0}, {0, 0, 1, 0, 0},
		make([]uint32, 65), slices.Repeat([]uint32{7}, 65), make([]uint32, 1<<14), slices.Repeat([]uint32{math.MaxUint32}, 1<<20),
	} {
		stay(t, api.Int{Limbs: limbs})
		stay(t, api.Int{Neg: true, Limbs: limbs})
	}
}

// What is answered is new memory: written over, it comes again.
func TestExactNumbersAreNew(t *testing.T) {
	for _, f := range []float64{0, 1, -8589934593, 1e300, greatest} {
		want := ratio(f).Num()
		for range 2 {
			isWhole(t, f, want)
			x, _ := flo.Exact(f)
			l := x.Limbs[:cap(x.Limbs)]
			for i := range l {
				l[i] = ^l[i]
			}
		}
	}
}

// P2: what is answered comes again, whatever was asked between.
func TestAnswersComeAgain(t *testing.T) {
	l := samples()
	texts := make([]string, len(l))
	for i, f := range l {
		texts[i] = flo.Text(f)
	}
	for i, f := range slices.Backward(l) {
		if got := flo.Text(f); got != texts[i] {
			t.Errorf("%s, then %s", texts[i], got)
		}
		if got, e := flo.Parse(texts[i]); !is(got, f) || e != api.OK {
			t.Errorf("%s: %v and error %d", texts[i], got, e)
		}
	}
	x := of(t, big.NewInt(-12345))
	number, whole := roomy(x)
	before := flo.Of(number)
	clear(whole)
	if after := flo.Of(x); !is(before, after) || !is(before, -12345) {
		t.Errorf("%v, then %v", before, after)
	}
}
