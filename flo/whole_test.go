package flo_test

import (
	"math"
	"math/big"
	"slices"
	"testing"

	"distaff/api"
	"distaff/exact"
	"distaff/flo"
)

// P3.4

// tried complains, if Of of a number, or of that with its sign turned, isn't the one wanted.
func tried(t *testing.T, n *big.Int, want float64) {
	t.Helper()
	if got := flo.Of(of(t, n)); !is(got, want) {
		t.Errorf("Of %v: %v, not %v", n, got, want)
	}
	turned := new(big.Int).Neg(n)
	if got := flo.Of(of(t, turned)); n.Sign() != 0 && !is(got, -want) {
		t.Errorf("Of %v: %v, not %v", turned, got, -want)
	}
}

func TestOf(t *testing.T) {
	cases := []struct {
		n    *big.Int
		want float64
	}{
		{big.NewInt(0), 0}, {big.NewInt(1), 1}, {big.NewInt(100), 100}, {bit(32, -1), 4294967295}, {bit(32, 0), 4294967296}, {bit(53, -1), 9007199254740991}, {bit(53, 0), 9007199254740992},
		{bit(53, 1), 9007199254740992}, {bit(53, 2), 9007199254740994}, {bit(53, 3), 9007199254740996}, {bit(54, -1), 18014398509481984},
		{bit(54, 1), 18014398509481984}, {bit(54, 2), 18014398509481984}, {bit(54, 3), 18014398509481988}, {bit(54, 5), 18014398509481988}, {bit(54, 6), 18014398509481992},
		{bit(63, -1), 9223372036854775808}, {bit(64, -1), 18446744073709551616}, {bit(64, 2048), 18446744073709551616}, {bit(64, 2049), 18446744073709555712},
		{bit(64, 6144), 18446744073709559808}, {bit(64, 6143), 18446744073709555712}, {bit(100, 1), math.Ldexp(1, 100)}, {bit(1023, 0), math.Ldexp(1, 1023)},
	}
	for _, c := range cases {
		tried(t, c.n, c.want)
	}
	if got := flo.Of(api.Int{Limbs: []uint32{}}); !is(got, 0) {
		t.Error(got)
	}
}

func TestOfHalves(t *testing.T) {
	for up := range 960 {
		for _, m := range []int64{1 << 52, 1<<52 + 1, 3 << 51, 3<<51 + 1, 1<<53 - 2, 1<<53 - 1} { // of 53 bits, so that one more is the half
			below, above := math.Ldexp(float64(m), up+1), math.Ldexp(float64(m+1), up+1)
			even := below
			if m%2 == 1 {
				even = above
			}
			half := new(big.Int).Lsh(big.NewInt(2*m+1), uint(up))
			tried(t, half, even)
			if up > 0 {
				tried(t, new(big.Int).Add(half, big.NewInt(1)), above)
				tried(t, new(big.Int).Sub(half, big.NewInt(1)), below)
			}
		}
		if t.Failed() {
			return
		}
	}
}

func TestOfTooGreat(t *testing.T) {
	half := new(big.Int).Sub(bit(1024, 0), bit(970, 0))
	tried(t, half, math.Inf(1))
	tried(t, new(big.Int).Sub(half, big.NewInt(1)), greatest)
	tried(t, new(big.Int).Add(half, big.NewInt(1)), math.Inf(1))
	tried(t, new(big.Int).Sub(bit(1024, 0), bit(971, 0)), greatest)
	for _, n := range []uint{1024, 1025, 1055, 1056, 1100, 1500, 2000, 2047} {
		tried(t, bit(n, -1), math.Inf(1))
		tried(t, bit(n, 0), math.Inf(1))
	}
	tried(t, bit(2048, -1), math.Inf(1))
}

// wholes is exact numbers of all lengths, not negative.
func wholes() []*big.Int {
	l := []*big.Int{big.NewInt(0)}
	next := noise()
	for n := uint(0); n < 1100; n++ {
		x := new(big.Int)
		for x.BitLen() <= int(n) {
			x.Lsh(x, 64)
			x.Or(x, new(big.Int).SetUint64(next()|1<<63))
		}
		l = append(l, bit(n, 0), bit(n, 1), bit(n, -1), x.Rsh(x, uint(x.BitLen())-n))
	}
	return l
}

func TestOfIsNearest(t *testing.T) {
	for _, n := range wholes() {
		want := nearest(new(big.Rat).SetInt(n))
		tried(t, n, want)
		text := n.String() + ".0"
		if n.Sign() != 0 && len(text) <= 700 {
			readsSigned(t, text, want)
		}
		if t.Failed() {
			return
		}
	}
}

// isWhole complains, if Exact isn't n alone.
func isWhole(t *testing.T, f float64, n *big.Int) {
	t.Helper()
	got, e := flo.Exact(f)
	want := of(t, n)
	if e != api.OK || got.Neg != want.Neg || !slices.Equal(got.Limbs, want.Limbs) {
		t.Errorf("Exact of %v: %v and error %d", f, got, e)
	}
}

// isNone complains, if Exact isn't the error alone.
func isNone(t *testing.T, f float64) {
	t.Helper()
	if got, e := flo.Exact(f); got.Neg || len(got.Limbs) != 0 || e != api.ErrFloat {
		t.Errorf("Exact of %v: %v and error %d", f, got, e)
	}
}

func TestExact(t *testing.T) {
	cases := []struct {
		f float64
		n *big.Int
	}{
		{0, big.NewInt(0)}, {minusZero(), big.NewInt(0)}, {1, big.NewInt(1)}, {-1, big.NewInt(-1)}, {-7, big.NewInt(-7)}, {4294967296, bit(32, 0)},
		{9007199254740991, bit(53, -1)}, {9007199254740992, bit(53, 0)}, {9007199254740994, bit(53, 2)}, {4503599627370497, bit(52, 1)}, {18014398509481988, bit(54, 4)},
		{9223372036854775808, bit(63, 0)}, {-9223372036854775808, new(big.Int).Neg(bit(63, 0))}, {18446744073709551616, bit(64, 0)},
		{1e15, big.NewInt(1e15)}, {-1e18, big.NewInt(-1e18)}, {math.Ldexp(1, 1023), bit(1023, 0)}, {greatest, new(big.Int).Sub(bit(1024, 0), bit(971, 0))},
	}
	for _, c := range cases {
		isWhole(t, c.f, c.n)
	}
	for _, f := range []float64{0.5, -0.5, 1.5, 0.1, leastOne, -leastOne, 4503599627370495.5, 1125899906842624.25, 0.9999999999999999, 1.0000000000000002, math.Inf(1), math.Inf(-1)} {
		isNone(t, f)
	}
	for _, f := range nans() {
		isNone(t, f)
	}
	for _, f := range samples() {
		if r := ratio(f); r.IsInt() {
			isWhole(t, f, r.Num())
		} else {
			isNone(t, f)
		}
		if x, _ := flo.Exact(f); !exact.Right(x) {
			t.Errorf("Exact of %v isn't RIGHT", f)
		}
		if t.Failed() {
			return
		}
	}
}

// compares complains, if Cmp isn't the order wanted.
func compares(t *testing.T, n *big.Int, f float64, want int) {
	t.Helper()
	if got, ok := flo.Cmp(of(t, n), f); got != want || !ok {
		t.Errorf("Cmp of %v and %v: %d and %t, not %d", n, f, got, ok, want)
	}
}

func TestCmp(t *testing.T) {
	cases := []struct {
		n    int64
		f    float64
		want int
	}{
		{0, 0, 0}, {0, minusZero(), 0}, {1, 0, 1}, {-1, minusZero(), -1}, {0, leastOne, -1}, {0, -leastOne, 1}, {1, leastOne, 1}, {-1, -leastOne, -1},
		{1, 1, 0}, {-1, -1, 0}, {1, -1, 1}, {-1, 1, -1}, {2, 2.5, -1}, {3, 2.5, 1}, {-2, -2.5, 1}, {-3, -2.5, -1}, {0, 0.5, -1}, {0, -0.5, 1}, {1, 0.5, 1}, {-1, -0.5, -1},
		{1, 0.9999999999999999, 1}, {1, 1.0000000000000002, -1}, {-1, -0.9999999999999999, -1}, {-1, -1.0000000000000002, 1},
		{9007199254740992, 9007199254740992, 0}, {9007199254740993, 9007199254740992, 1}, {9007199254740993, 9007199254740994, -1}, {-9007199254740993, -9007199254740992, -1},
		{math.MaxInt64, 9223372036854775808, -1}, {math.MinInt64, -9223372036854775808, 0}, {4503599627370495, 4503599627370495.5, -1}, {4503599627370496, 4503599627370495.5, 1},
		{5, greatest, -1}, {5, -greatest, 1},
	}
	for _, c := range cases {
		compares(t, big.NewInt(c.n), c.f, c.want)
	}
	whole := new(big.Int).Sub(bit(1024, 0), bit(971, 0))
	beyond := new(big.Int).Add(whole, big.NewInt(1))
	compares(t, whole, greatest, 0)
	compares(t, beyond, greatest, 1)
	compares(t, new(big.Int).Neg(beyond), -greatest, -1)
	for _, n := range []*big.Int{big.NewInt(0), big.NewInt(7), big.NewInt(-7), whole, beyond, bit(2048, -1), new(big.Int).Neg(bit(2048, -1))} {
		compares(t, n, math.Inf(1), -1)
		compares(t, n, math.Inf(-1), 1)
		for _, f := range nans() {
			if got, ok := flo.Cmp(of(t, n), f); got != 0 || ok {
				t.Errorf("Cmp of %v and what is not a number: %d and %t", n, got, ok)
			}
		}
	}
}

func TestCmpAroundAll(t *testing.T) {
	for _, f := range samples() {
		r := ratio(f)
		whole := new(big.Int).Quo(r.Num(), r.Denom())
		for more := int64(-2); more <= 2; more++ {
			n := new(big.Int).Add(whole, big.NewInt(more))
			compares(t, n, f, new(big.Rat).SetInt(n).Cmp(r))
		}
		for _, n := range []*big.Int{big.NewInt(0), big.NewInt(-1000000), bit(1500, 0)} {
			compares(t, n, f, new(big.Rat).SetInt(n).Cmp(r))
		}
		if t.Failed() {
			return
		}
	}
}

func TestRound(t *testing.T) {
	cases := []struct{ f, want float64 }{
		{0, 0}, {minusZero(), minusZero()}, {math.Inf(1), math.Inf(1)}, {math.Inf(-1), math.Inf(-1)},
		{0.5, 0}, {-0.5, minusZero()}, {1.5, 2}, {-1.5, -2}, {2.5, 2}, {-2.5, -2}, {3.5, 4}, {-3.5, -4}, {7.5, 8}, {8.5, 8},
		{0.3, 0}, {-0.3, minusZero()}, {0.7, 1}, {-0.7, -1}, {1.2, 1}, {1.8, 2}, {-1.2, -1}, {-1.8, -2}, {leastOne, 0}, {-leastOne, minusZero()},
		{0.49999999999999994, 0}, {-0.49999999999999994, minusZero()}, {0.5000000000000001, 1}, {-0.5000000000000001, -1}, {2.4999999999999996, 2}, {2.5000000000000004, 3},
		{1, 1}, {-1, -1}, {100, 100}, {4503599627370495.5, 4503599627370496}, {4503599627370494.5, 4503599627370494}, {4503599627370497, 4503599627370497}, {-4503599627370495.5, -4503599627370496},
		{1125899906842624.25, 1125899906842624}, {1125899906842624.75, 1125899906842625}, {9007199254740991, 9007199254740991}, {9007199254740993, 9007199254740992}, {1e300, 1e300}, {greatest, greatest}, {-greatest, -greatest},
	}
	for _, c := range cases {
		if got := flo.Round(c.f); !is(got, c.want) {
			t.Errorf("Round of %v: %v, not %v", c.f, got, c.want)
		}
	}
	for _, f := range nans() {
		if got := flo.Round(f); got == got {
			t.Errorf("Round of what is not a number: %v", got)
		}
	}
}

// roundedWhole is the nearest whole number, of two as near the even one.
func roundedWhole(r *big.Rat) *big.Int {
	twice := new(big.Rat).Add(new(big.Rat).Add(r, r), big.NewRat(1, 1))
	low := new(big.Int).Div(twice.Num(), new(big.Int).Lsh(twice.Denom(), 1)) // the half more, rounded down
	if new(big.Rat).Sub(new(big.Rat).SetInt(low), r).Cmp(big.NewRat(1, 2)) == 0 && low.Bit(0) == 1 {
		low.Sub(low, big.NewInt(1))
	}
	return low
}

func TestRoundIsNearest(t *testing.T) {
	l := samples()
	for n := -40; n <= 40; n++ {
		l = append(l, float64(n)/4, float64(n)+0.5)
	}
	for _, f := range l {
		want := math.Copysign(nearest(new(big.Rat).SetInt(roundedWhole(ratio(f)))), f)
		if got := flo.Round(f); !is(got, want) {
			t.Fatalf("Round of %v: %v, not %v", f, got, want)
		}
	}
}
