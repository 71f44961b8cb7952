package flo_test

import (
	"math"
	"math/big"
	"testing"

	"distaff/api"
	"distaff/exact"
	"distaff/flo"
)

const (
	nanBits  = 0x7FF8000000000001
	leastOne = math.SmallestNonzeroFloat64
	greatest = math.MaxFloat64
)

// minusZero is made by a call: a constant has no sign of its own.
func minusZero() float64 {
	return math.Copysign(0, -1)
}

// nans is what is not a number: quiet and signalling, both signs, other bits set or not.
func nans() []float64 {
	var l []float64
	for _, b := range []uint64{
		nanBits, 0x7FF8000000000000, 0x7FF0000000000001, 0x7FF4000000000000, 0x7FF7FFFFFFFFFFFF, 0x7FF80000DEADBEEF, 0x7FFFFFFFFFFFFFFF,
	} {
		l = append(l, math.Float64frombits(b), math.Float64frombits(b|1<<63))
	}
	return l
}

// noise answers numbers of 64 bits, the same ones each time.
func noise() func() uint64 {
	seed := uint64(7)
	return func() uint64 {
		seed = seed*6364136223846793005 + 1442695040888963407
		return seed ^ seed>>29
	}
}

// sizes is numbers above 0 around those where something changes, and of all sizes between.
func sizes() []float64 {
	around := []float64{0.001, 0.5, 1, 1.5, 2.5, 10, 1e15, 1e20, 1e21, 1e22, 1e23, 0.1, 0.3, 123456789012345678, 1125899906842624.25, 2.2250738585072014e-308, greatest}
	for n := -1074; n < 1024; n++ {
		around = append(around, math.Ldexp(1, n))
	}
	for n := -323; n <= 308; n += 5 {
		around = append(around, math.Pow(10, float64(n)))
	}
	next := noise()
	for range 1500 {
		around = append(around, math.Float64frombits(next()>>1), math.Ldexp(float64(next()>>11), int(next()%64)-60))
	}
	var l []float64
	for _, f := range around {
		for _, x := range []float64{math.Nextafter(f, 0), f, math.Nextafter(f, math.Inf(1))} {
			if x > 0 && !math.IsInf(x, 1) {
				l = append(l, x)
			}
		}
	}
	return l
}

// samples is zeros and sizes with both signs: all are numbers, and finite.
func samples() []float64 {
	l := []float64{0, minusZero()}
	for _, f := range sizes() {
		l = append(l, f, -f)
	}
	return l
}

// is asks whether two are the same, to the bit, or both are not a number.
func is(a, b float64) bool {
	return a != a && b != b || math.Float64bits(a) == math.Float64bits(b)
}

// ratio is the number that a finite one means.
func ratio(f float64) *big.Rat {
	return new(big.Rat).SetFloat64(f)
}

// ten is ten to the power of n.
func ten(n int) *big.Rat {
	power := new(big.Int).Exp(big.NewInt(10), big.NewInt(int64(max(n, -n))), nil)
	if n < 0 {
		return new(big.Rat).SetFrac(big.NewInt(1), power)
	}
	return new(big.Rat).SetInt(power)
}

// nearest is the floating number nearest to another one, reckoned by fractions.
func nearest(r *big.Rat) float64 {
	f, _ := r.Float64()
	return f
}

// of is an exact number.
func of(t *testing.T, n *big.Int) api.Int {
	t.Helper()
	x, e := exact.Parse(n.String())
	if e != api.OK {
		t.Fatal(n, e)
	}
	return x
}

// bit is 2 to the power of n, and something more.
func bit(n uint, more int64) *big.Int {
	x := new(big.Int).Lsh(big.NewInt(1), n)
	return x.Add(x, big.NewInt(more))
}

// P3.1

func TestBits(t *testing.T) {
	cases := []struct {
		f    float64
		want uint64
	}{
		{0, 0}, {minusZero(), 1 << 63},
		{1, 0x3FF0000000000000}, {-1, 0xBFF0000000000000}, {1.5, 0x3FF8000000000000}, {-2, 0xC000000000000000}, {0.1, 0x3FB999999999999A},
		{leastOne, 1}, {-leastOne, 1<<63 | 1}, {2.2250738585072009e-308, 0x000FFFFFFFFFFFFF}, {2.2250738585072014e-308, 0x0010000000000000},
		{greatest, 0x7FEFFFFFFFFFFFFF}, {-greatest, 0xFFEFFFFFFFFFFFFF},
		{math.Inf(1), 0x7FF0000000000000}, {math.Inf(-1), 0xFFF0000000000000},
	}
	for _, c := range cases {
		if got := flo.Bits(c.f); got != c.want {
			t.Errorf("%v: %x, not %x", c.f, got, c.want)
		}
	}
	for _, f := range samples() {
		if got := flo.Bits(f); got != math.Float64bits(f) {
			t.Errorf("%v: %x", f, got)
		}
	}
	for _, f := range nans() {
		if got := flo.Bits(f); got != nanBits {
			t.Errorf("%x: %x", math.Float64bits(f), got)
		}
	}
}

func TestSame(t *testing.T) {
	l := []float64{
		0, minusZero(), leastOne, -leastOne, 2 * leastOne, 1, -1, math.Nextafter(1, 2), math.Nextafter(1, 0),
		greatest, -greatest, math.Nextafter(greatest, 0), math.Inf(1), math.Inf(-1),
	}
	for i, a := range l {
		for j, b := range l {
			if got := flo.Same(a, b); got != (i == j) {
				t.Errorf("%v and %v: %t", a, b, got)
			}
		}
		for _, b := range nans() {
			if flo.Same(a, b) || flo.Same(b, a) {
				t.Errorf("%v is the same as %x", a, math.Float64bits(b))
			}
		}
	}
	for _, a := range nans() {
		for _, b := range nans() {
			if !flo.Same(a, b) {
				t.Errorf("%x and %x are two", math.Float64bits(a), math.Float64bits(b))
			}
		}
	}
}

// The section Examples.
func TestExamples(t *testing.T) {
	for _, c := range []struct {
		f    float64
		want string
	}{{100, "100.0"}, {1e21, "1.0e21"}, {0.0001, "1.0e-4"}} {
		if got := flo.Text(c.f); got != c.want {
			t.Errorf("%s, not %s", got, c.want)
		}
	}
}

// The section Errors.
func TestErrors(t *testing.T) {
	if f, e := flo.Parse("no number"); !is(f, 0) || e != 31 {
		t.Error("a text that is no floating number", f, e)
	}
	if x, e := flo.Exact(0.5); x.Neg || len(x.Limbs) != 0 || e != 31 {
		t.Error("a floating number that is no exact one", x, e)
	}
}
