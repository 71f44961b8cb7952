package limb_test

import (
	"math"
	"math/big"
	"slices"
	"testing"

	"distaff/api"
	"distaff/limb"
)

const top = math.MaxUint32

// full is n limbs, all of whose bits are set.
func full(n int) []uint32 {
	return slices.Repeat([]uint32{top}, n)
}

// power is 2 to the power of 32 times n.
func power(n int) []uint32 {
	return append(make([]uint32, n), 1)
}

// padded is the same number with limbs above that mean nothing.
func padded(a []uint32, zeros int) []uint32 {
	return append(slices.Clone(a), make([]uint32, zeros)...)
}

// number is what a list of limbs means.
func number(a []uint32) *big.Int {
	n := new(big.Int)
	for i := len(a) - 1; i >= 0; i-- {
		n.Lsh(n, 32)
		n.Or(n, big.NewInt(int64(a[i])))
	}
	return n
}

// limbsOf is the TRIM list of a number.
func limbsOf(n *big.Int) []uint32 {
	var a []uint32
	low := big.NewInt(top)
	for rest := new(big.Int).Set(n); rest.Sign() > 0; rest.Rsh(rest, 32) {
		a = append(a, uint32(new(big.Int).And(rest, low).Uint64()))
	}
	return a
}

// samples is numbers at the edges and between them, some of them not TRIM, some of them BIG.
func samples() [][]uint32 {
	lists := [][]uint32{
		nil, {}, {0}, {0, 0, 0},
		{1}, {1, 0}, {2}, {10}, {top}, {top, 0, 0}, {top - 1}, {1 << 31},
		{0, 1}, {1, 1}, {0, 1, 0}, {top, top}, {top, 1 << 31}, {0, 1 << 31}, {1, 1 << 31},
		{0, 0, 1}, {1, 2, 3}, {0, 0, 1 << 31, 0}, {0, top - 1, 1 << 31}, {top, 0, top}, {0, 0, 1 << 31, 1<<31 - 1},
		full(31), full(32), full(33), power(31), power(32), power(33),
		full(63), full(64), padded(full(64), 1), padded(full(64), 70), padded([]uint32{7}, 200),
		power(62), power(63), padded(power(63), 5), padded(nil, 65),
		power(64), padded(power(64), 3), full(65), power(100), full(130), padded(full(65), 1),
	}
	seed := uint64(1)
	for n := range 66 {
		a := make([]uint32, n)
		for i := range a {
			seed = seed*6364136223846793005 + 1442695040888963407
			a[i] = uint32(seed >> 32)
		}
		lists = append(lists, a)
	}
	return lists
}

// pairs calls f with each two of the samples, till a test has failed: one complaint tells enough.
func pairs(t *testing.T, f func(a, b []uint32)) {
	t.Helper()
	lists := samples()
	for _, a := range lists {
		for _, b := range lists {
			if f(a, b); t.Failed() {
				return
			}
		}
	}
}

func isBig(n *big.Int) bool {
	return n.BitLen() > 32*64
}

// same complains, if a list isn't the TRIM one of a number.
func same(t *testing.T, what string, got []uint32, want *big.Int) {
	t.Helper()
	if !slices.Equal(got, limbsOf(want)) {
		t.Errorf("%s: %v, not %v", what, got, limbsOf(want))
	}
}

// none complains, if beside an error there is a list.
func none(t *testing.T, what string, got []uint32, e, want api.Errno) {
	t.Helper()
	if len(got) != 0 || e != want {
		t.Errorf("%s: %v and error %d, not error %d alone", what, got, e, want)
	}
}

// P1.1

func TestTrim(t *testing.T) {
	for _, a := range samples() {
		same(t, "Trim", limb.Trim(a), number(a))
	}
	if got := limb.Trim([]uint32{0, 5, 0, 6, 0, 0}); !slices.Equal(got, []uint32{0, 5, 0, 6}) {
		t.Error(got)
	}
}

func TestCmp(t *testing.T) {
	pairs(t, func(a, b []uint32) {
		if got, want := limb.Cmp(a, b), number(a).Cmp(number(b)); got != want {
			t.Errorf("Cmp of %v and %v: %d, not %d", a, b, got, want)
		}
	})
	cases := []struct {
		a, b []uint32
		want int
	}{
		{nil, []uint32{0, 0}, 0},
		{[]uint32{5, 0}, []uint32{5}, 0},
		{[]uint32{9, 0, 0}, []uint32{0, 1}, -1},
		{[]uint32{9, 1}, []uint32{1, 2}, -1},
		{[]uint32{2, 2}, []uint32{1, 2, 0}, 1},
		{[]uint32{1 << 31}, []uint32{1}, 1},
		{full(100), power(100), -1},
	}
	for _, c := range cases {
		if got := limb.Cmp(c.a, c.b); got != c.want {
			t.Errorf("Cmp of %v and %v: %d, not %d", c.a, c.b, got, c.want)
		}
	}
}

func TestOf(t *testing.T) {
	cases := []struct {
		n    uint64
		want []uint32
	}{
		{0, nil}, {1, []uint32{1}}, {top, []uint32{top}}, {1 << 32, []uint32{0, 1}},
		{8589934593, []uint32{1, 2}}, {math.MaxUint64, []uint32{top, top}},
	}
	for _, c := range cases {
		if got := limb.Of(c.n); !slices.Equal(got, c.want) {
			t.Errorf("Of %d: %v, not %v", c.n, got, c.want)
		}
	}
}

func TestSmall(t *testing.T) {
	for _, a := range samples() {
		want := number(a)
		n, ok := limb.Small(a)
		if ok != want.IsUint64() || ok && n != want.Uint64() || !ok && n != 0 {
			t.Errorf("Small of %v: %d, %t", a, n, ok)
		}
	}
	if n, ok := limb.Small([]uint32{top, top, 0}); n != math.MaxUint64 || !ok {
		t.Error(n, ok)
	}
	if n, ok := limb.Small([]uint32{0, 0, 1}); n != 0 || ok {
		t.Error(n, ok)
	}
}

// P1.2

// bounded checks a reckoning with each two of the samples, whose outcome may be BIG.
func bounded(t *testing.T, call func(a, b []uint32) ([]uint32, api.Errno), reckon func(z, x, y *big.Int) *big.Int) {
	t.Helper()
	pairs(t, func(a, b []uint32) {
		x, y := number(a), number(b)
		want := reckon(new(big.Int), x, y)
		got, e := call(a, b)
		if isBig(x) || isBig(y) || isBig(want) {
			none(t, "of BIG ones", got, e, api.ErrBig)
			return
		}
		if !slices.Equal(got, limbsOf(want)) || e != api.OK {
			t.Errorf("of %v and %v: %v, error %d", a, b, got, e)
		}
	})
}

func TestAdd(t *testing.T) {
	bounded(t, limb.Add, (*big.Int).Add)
}

func TestSub(t *testing.T) {
	pairs(t, func(a, b []uint32) {
		want := new(big.Int).Sub(number(a), number(b))
		got, ok := limb.Sub(a, b)
		if ok != (want.Sign() >= 0) {
			t.Errorf("Sub of %v and %v: %t", a, b, ok)
		}
		if !ok && len(got) != 0 {
			t.Errorf("Sub of %v and %v: %v beside false", a, b, got)
		}
		if ok {
			same(t, "Sub", got, want)
		}
	})
}

func TestMul(t *testing.T) {
	bounded(t, limb.Mul, (*big.Int).Mul)
	if got, e := limb.Mul([]uint32{top}, []uint32{top}); !slices.Equal(got, []uint32{1, top - 1}) || e != api.OK {
		t.Error(got, e)
	}
}

// divided checks one division of numbers that aren't BIG by something.
func divided(t *testing.T, a, b []uint32) {
	t.Helper()
	quotient, rest, e := limb.Div(a, b)
	q, r := new(big.Int).QuoRem(number(a), number(b), new(big.Int))
	if e != api.OK || !slices.Equal(quotient, limbsOf(q)) || !slices.Equal(rest, limbsOf(r)) {
		t.Errorf("Div of %v and %v: %v, %v, error %d", a, b, quotient, rest, e)
	}
}

func TestDiv(t *testing.T) {
	pairs(t, func(a, b []uint32) {
		x, y := number(a), number(b)
		var want api.Errno
		switch {
		case isBig(x) || isBig(y):
			want = api.ErrBig
		case y.Sign() == 0:
			want = api.ErrZero
		default:
			divided(t, a, b)
			return
		}
		quotient, rest, e := limb.Div(a, b)
		none(t, "Div's quotient", quotient, e, want)
		none(t, "Div's rest", rest, e, want)
	})
}

// Limbs of these kinds are those by which a guess of the quotient is too high, once or twice.
func TestDivByHardLimbs(t *testing.T) {
	hard := []uint32{0, 1, 1<<31 - 1, 1 << 31, top - 1, top}
	n := len(hard)
	for i := range n * n * n * n {
		a := []uint32{hard[i%n], hard[i/n%n], hard[i/n/n%n], hard[i/n/n/n]}
		for j := 1; j < n*n*n && !t.Failed(); j++ {
			divided(t, a, []uint32{hard[j%n], hard[j/n%n], hard[j/n/n]})
		}
	}
}

// The section Errors: which error comes first, and that nothing stands beside it.

func TestBigComesFirst(t *testing.T) {
	for _, huge := range [][]uint32{power(64), full(65), padded(power(64), 2), full(1000)} {
		for _, other := range [][]uint32{nil, {0}, {1}, full(64), huge} {
			for _, two := range [][2][]uint32{{huge, other}, {other, huge}} {
				sum, e := limb.Add(two[0], two[1])
				none(t, "Add", sum, e, api.ErrBig)
				product, e := limb.Mul(two[0], two[1])
				none(t, "Mul", product, e, api.ErrBig)
				quotient, rest, e := limb.Div(two[0], two[1])
				none(t, "Div", quotient, e, api.ErrBig)
				none(t, "Div", rest, e, api.ErrBig)
			}
		}
	}
}

func TestMostLimbs(t *testing.T) {
	sum, e := limb.Add(full(63), power(63))
	if want := append(full(63), 1); !slices.Equal(sum, want) || e != api.OK {
		t.Error(sum, e)
	}
	sum, e = limb.Add(padded(full(64), 9), padded(nil, 99))
	if !slices.Equal(sum, full(64)) || e != api.OK {
		t.Error(sum, e)
	}
	sum, e = limb.Add(full(64), []uint32{1})
	none(t, "Add", sum, e, api.ErrBig)
	product, e := limb.Mul(power(31), power(32))
	if !slices.Equal(product, power(63)) || e != api.OK {
		t.Error(product, e)
	}
	product, e = limb.Mul(power(32), power(32))
	none(t, "Mul", product, e, api.ErrBig)
	product, e = limb.Mul(full(64), []uint32{2})
	none(t, "Mul", product, e, api.ErrBig)
	quotient, rest, e := limb.Div(padded(full(64), 4), padded(full(64), 5))
	if !slices.Equal(quotient, []uint32{1}) || len(rest) != 0 || e != api.OK {
		t.Error(quotient, rest, e)
	}
}

func TestDivisionByNothing(t *testing.T) {
	for _, a := range [][]uint32{nil, {0}, {7}, full(64), padded(full(64), 1)} {
		for _, zero := range [][]uint32{nil, {}, {0}, padded(nil, 65)} {
			quotient, rest, e := limb.Div(a, zero)
			none(t, "Div", quotient, e, api.ErrZero)
			none(t, "Div", rest, e, api.ErrZero)
		}
	}
}
