package exact_test

import (
	"math"
	"math/big"
	"slices"
	"testing"

	"distaff/api"
	"distaff/exact"
)

// of is the RIGHT number of another kind of number, if it isn't BIG.
func of(n *big.Int) api.Int {
	var limbs []uint32
	low := big.NewInt(math.MaxUint32)
	for rest := new(big.Int).Abs(n); rest.Sign() > 0; rest.Rsh(rest, 32) {
		limbs = append(limbs, uint32(new(big.Int).And(rest, low).Uint64()))
	}
	return api.Int{Neg: n.Sign() < 0, Limbs: limbs}
}

// bit is 2 to the power of n, and something more.
func bit(n uint, more int64) *big.Int {
	x := new(big.Int).Lsh(big.NewInt(1), n)
	return x.Add(x, big.NewInt(more))
}

// turned is a number with its sign turned.
func turned(n *big.Int) *big.Int {
	return new(big.Int).Neg(n)
}

// isBig asks whether a number has more than 64 limbs.
func isBig(n *big.Int) bool {
	return n.BitLen() > 64*32
}

// edges is nothing and numbers around those where something changes, without their signs.
func edges() []*big.Int {
	return []*big.Int{
		big.NewInt(0), big.NewInt(1), big.NewInt(2), big.NewInt(7), big.NewInt(360),
		bit(31, 0), bit(32, -1), bit(32, 0), bit(32, 1),
		bit(63, -2), bit(63, -1), bit(63, 0), bit(63, 1), bit(64, -1), bit(64, 0), bit(64, 5), bit(96, -1),
		bit(1023, 0), bit(1024, -1), bit(1024, 0), bit(1024, 1),
		bit(2016, -1), bit(2016, 0), bit(2047, -1), bit(2047, 0), bit(2047, 1), bit(2048, -2), bit(2048, -1),
	}
}

// samples is the edges, and numbers of all lengths between them, with both signs.
func samples() []*big.Int {
	sizes := edges()
	seed := uint64(5)
	for n := 1; n <= 64; n += 7 {
		x := new(big.Int)
		for range n {
			seed = seed*6364136223846793005 + 1442695040888963407
			x.Lsh(x, 32)
			x.Or(x, new(big.Int).SetUint64(seed>>32))
		}
		sizes = append(sizes, x)
	}
	var l []*big.Int
	for _, x := range sizes {
		l = append(l, x)
		if x.Sign() > 0 {
			l = append(l, turned(x))
		}
	}
	return l
}

// pairs calls f with each two of the samples, till a test has failed: one complaint tells enough.
func pairs(t *testing.T, f func(x, y *big.Int)) {
	t.Helper()
	l := samples()
	for _, x := range l {
		for _, y := range l {
			if f(x, y); t.Failed() {
				return
			}
		}
	}
}

func equal(a, b api.Int) bool {
	return a.Neg == b.Neg && slices.Equal(a.Limbs, b.Limbs)
}

// same complains, if an answer isn't the RIGHT one of a number.
func same(t *testing.T, what string, got api.Int, e api.Errno, want *big.Int) {
	t.Helper()
	if !equal(got, of(want)) || e != api.OK {
		t.Errorf("%s: %v and error %d, not %v", what, got, e, of(want))
	}
}

// nothing complains, if it isn't that error alone.
func nothing(t *testing.T, what string, got api.Int, e, want api.Errno) {
	t.Helper()
	if got.Neg || len(got.Limbs) != 0 || e != want {
		t.Errorf("%s: %v and error %d, not error %d alone", what, got, e, want)
	}
}

// P2.1

func TestRight(t *testing.T) {
	for _, x := range samples() {
		if !exact.Right(of(x)) {
			t.Errorf("%v can't be", x)
		}
	}
	full := of(bit(2048, -1)).Limbs
	cases := []struct {
		x    api.Int
		want bool
	}{
		{api.Int{}, true},
		{api.Int{Limbs: []uint32{}}, true},
		{api.Int{Neg: true}, false},
		{api.Int{Neg: true, Limbs: []uint32{}}, false},
		{api.Int{Limbs: []uint32{0}}, false},
		{api.Int{Neg: true, Limbs: []uint32{0}}, false},
		{api.Int{Neg: true, Limbs: []uint32{1}}, true},
		{api.Int{Limbs: []uint32{0, 1}}, true},
		{api.Int{Limbs: []uint32{1, 0}}, false},
		{api.Int{Neg: true, Limbs: []uint32{0, 0}}, false},
		{api.Int{Limbs: full}, true},
		{api.Int{Neg: true, Limbs: full}, true},
		{api.Int{Limbs: append(slices.Clone(full), 0)}, false},
		{api.Int{Limbs: append(slices.Clone(full), 1)}, false},
		{api.Int{Neg: true, Limbs: append(slices.Clone(full), 1)}, false},
		{api.Int{Limbs: append(slices.Clone(full[:63]), 0)}, false},
		{api.Int{Limbs: make([]uint32, 64)}, false},
		{api.Int{Limbs: slices.Repeat([]uint32{1}, 1<<20)}, false},
	}
	for _, c := range cases {
		if got := exact.Right(c.x); got != c.want {
			t.Errorf("Right of a sign %t and %d limbs: %t", c.x.Neg, len(c.x.Limbs), got)
		}
	}
}

func TestSameAndCmp(t *testing.T) {
	pairs(t, func(x, y *big.Int) {
		want := x.Cmp(y)
		if got := exact.Cmp(of(x), of(y)); got != want {
			t.Errorf("Cmp of %v and %v: %d", x, y, got)
		}
		if got := exact.Same(of(x), of(y)); got != (want == 0) {
			t.Errorf("Same of %v and %v: %t", x, y, got)
		}
	})
	empty := api.Int{Limbs: []uint32{}}
	if !exact.Same(api.Int{}, empty) || !exact.Same(empty, api.Int{}) || exact.Cmp(empty, api.Int{}) != 0 {
		t.Error("nothing isn't the same as nothing")
	}
	if exact.Same(exact.Of(5), exact.Of(-5)) || exact.Cmp(exact.Of(-5), exact.Of(-7)) != 1 {
		t.Error("5 and 7 below nothing")
	}
}

// ints is ints at their edges.
func ints() []int {
	return []int{
		0, 1, -1, 2, -2, 7, -7,
		math.MaxInt32, math.MinInt32, math.MaxUint32, -math.MaxUint32, math.MaxUint32 + 1, -math.MaxUint32 - 1,
		math.MaxInt, math.MaxInt - 1, -math.MaxInt, math.MinInt, math.MinInt + 1,
	}
}

func TestOf(t *testing.T) {
	for _, n := range ints() {
		same(t, "Of", exact.Of(n), api.OK, big.NewInt(int64(n)))
	}
}

func TestSmall(t *testing.T) {
	for _, x := range samples() {
		got, ok := exact.Small(of(x))
		if ok != x.IsInt64() || ok && int64(got) != x.Int64() || !ok && got != 0 {
			t.Errorf("Small of %v: %d, %t", x, got, ok)
		}
	}
	for _, n := range ints() {
		if got, ok := exact.Small(exact.Of(n)); got != n || !ok {
			t.Errorf("Small of %d: %d, %t", n, got, ok)
		}
	}
	beyond := []api.Int{
		{Limbs: []uint32{0, 1 << 31}}, {Neg: true, Limbs: []uint32{1, 1 << 31}},
		{Limbs: []uint32{math.MaxUint32, math.MaxUint32}}, {Neg: true, Limbs: []uint32{math.MaxUint32, math.MaxUint32}},
		{Limbs: []uint32{7, 0, 1}}, {Neg: true, Limbs: []uint32{7, 0, 1}},
	}
	for _, x := range beyond {
		if got, ok := exact.Small(x); got != 0 || ok {
			t.Errorf("Small of %v: %d, %t", x, got, ok)
		}
	}
}

func TestNeg(t *testing.T) {
	for _, x := range samples() {
		same(t, "Neg", exact.Neg(of(x)), api.OK, turned(x))
	}
	nothing(t, "Neg of nothing", exact.Neg(api.Int{}), api.OK, api.OK)
	nothing(t, "Neg of nothing", exact.Neg(api.Int{Limbs: []uint32{}}), api.OK, api.OK)
}

// The section Examples.

func TestExamples(t *testing.T) {
	quotient, rest, e := exact.Quo(exact.Of(-7), exact.Of(2))
	if exact.Text(quotient) != "-3" || exact.Text(rest) != "-1" || e != api.OK {
		t.Errorf("Quo of -7 and 2: %v, %v, error %d", quotient, rest, e)
	}
	rest, e = exact.Mod(exact.Of(-7), exact.Of(2))
	if exact.Text(rest) != "1" || e != api.OK {
		t.Errorf("Mod of -7 and 2: %v, error %d", rest, e)
	}
}
