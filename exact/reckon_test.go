package exact_test

import (
	"math/big"
	"testing"

	"distaff/api"
	"distaff/exact"
)

// P2.2

// bounded checks one reckoning, whose outcome may have more than 64 limbs.
func bounded(t *testing.T, what string, got api.Int, e api.Errno, want *big.Int) {
	t.Helper()
	if isBig(want) {
		nothing(t, what, got, e, api.ErrBig)
		return
	}
	same(t, what, got, e, want)
}

func TestAddSubMul(t *testing.T) {
	pairs(t, func(x, y *big.Int) {
		sum, e := exact.Add(of(x), of(y))
		bounded(t, "Add", sum, e, new(big.Int).Add(x, y))
		difference, e := exact.Sub(of(x), of(y))
		bounded(t, "Sub", difference, e, new(big.Int).Sub(x, y))
		product, e := exact.Mul(of(x), of(y))
		bounded(t, "Mul", product, e, new(big.Int).Mul(x, y))
	})
}

// What comes out has 64 limbs, or just more.
func TestMostLimbs(t *testing.T) {
	most, half := bit(2048, -1), bit(2047, 0)
	one, two := big.NewInt(1), big.NewInt(2)
	least := turned(most)
	cases := []struct {
		what string
		call func(a, b api.Int) (api.Int, api.Errno)
		x, y *big.Int
		want *big.Int // none: ErrBig
	}{
		{"Add", exact.Add, half, bit(2047, -1), most},
		{"Add", exact.Add, half, half, nil},
		{"Add", exact.Add, turned(half), turned(half), nil},
		{"Add", exact.Add, most, one, nil},
		{"Add", exact.Add, least, turned(one), nil},
		{"Add", exact.Add, most, turned(one), bit(2048, -2)},
		{"Add", exact.Add, most, least, big.NewInt(0)},
		{"Add", exact.Add, least, big.NewInt(0), least},
		{"Sub", exact.Sub, most, turned(one), nil},
		{"Sub", exact.Sub, least, one, nil},
		{"Sub", exact.Sub, least, turned(one), turned(bit(2048, -2))},
		{"Sub", exact.Sub, big.NewInt(0), most, least},
		{"Sub", exact.Sub, most, most, big.NewInt(0)},
		{"Mul", exact.Mul, bit(1024, -1), bit(1024, 1), most},
		{"Mul", exact.Mul, bit(1024, -1), turned(bit(1024, 1)), least},
		{"Mul", exact.Mul, bit(1023, 0), bit(1024, 0), half},
		{"Mul", exact.Mul, bit(1024, 0), bit(1024, 0), nil},
		{"Mul", exact.Mul, turned(bit(1024, 0)), bit(1024, 0), nil},
		{"Mul", exact.Mul, most, turned(one), least},
		{"Mul", exact.Mul, least, two, nil},
		{"Mul", exact.Mul, most, most, nil},
	}
	for _, c := range cases {
		got, e := c.call(of(c.x), of(c.y))
		if c.want == nil {
			nothing(t, c.what, got, e, api.ErrBig)
			continue
		}
		same(t, c.what, got, e, c.want)
	}
}

// floored is the rest with the divisor's sign.
func floored(x, y *big.Int) *big.Int {
	rest := new(big.Int).Mod(x, y) // never below 0
	if rest.Sign() > 0 && y.Sign() < 0 {
		rest.Add(rest, y)
	}
	return rest
}

func TestQuoMod(t *testing.T) {
	pairs(t, func(x, y *big.Int) {
		quotient, rest, e := exact.Quo(of(x), of(y))
		mod, f := exact.Mod(of(x), of(y))
		if y.Sign() == 0 {
			nothing(t, "Quo's quotient", quotient, e, api.ErrZero)
			nothing(t, "Quo's rest", rest, e, api.ErrZero)
			nothing(t, "Mod", mod, f, api.ErrZero)
			return
		}
		wantQuotient, wantRest := new(big.Int).QuoRem(x, y, new(big.Int))
		same(t, "Quo's quotient", quotient, e, wantQuotient)
		same(t, "Quo's rest", rest, e, wantRest)
		same(t, "Mod", mod, f, floored(x, y))
	})
}

func TestQuoModOfAllSigns(t *testing.T) {
	cases := []struct{ a, b, quotient, rest, mod int }{
		{7, 2, 3, 1, 1}, {-7, 2, -3, -1, 1}, {7, -2, -3, 1, -1}, {-7, -2, 3, -1, -1},
		{6, 2, 3, 0, 0}, {-6, 2, -3, 0, 0}, {6, -2, -3, 0, 0}, {-6, -2, 3, 0, 0},
		{1, 5, 0, 1, 1}, {-1, 5, 0, -1, 4}, {1, -5, 0, 1, -4}, {-1, -5, 0, -1, -1},
		{0, 5, 0, 0, 0}, {0, -5, 0, 0, 0}, {5, 1, 5, 0, 0}, {5, -1, -5, 0, 0},
	}
	for _, c := range cases {
		quotient, rest, e := exact.Quo(exact.Of(c.a), exact.Of(c.b))
		same(t, "Quo's quotient", quotient, e, big.NewInt(int64(c.quotient)))
		same(t, "Quo's rest", rest, e, big.NewInt(int64(c.rest)))
		mod, e := exact.Mod(exact.Of(c.a), exact.Of(c.b))
		same(t, "Mod", mod, e, big.NewInt(int64(c.mod)))
	}
}

func TestDivisionByNothing(t *testing.T) {
	for _, x := range samples() {
		for _, zero := range []api.Int{{}, {Limbs: []uint32{}}} {
			quotient, rest, e := exact.Quo(of(x), zero)
			nothing(t, "Quo's quotient", quotient, e, api.ErrZero)
			nothing(t, "Quo's rest", rest, e, api.ErrZero)
			rest, e = exact.Mod(of(x), zero)
			nothing(t, "Mod", rest, e, api.ErrZero)
		}
	}
}

func TestGcd(t *testing.T) {
	pairs(t, func(x, y *big.Int) {
		same(t, "Gcd", exact.Gcd(of(x), of(y)), api.OK, new(big.Int).GCD(nil, nil, x, y))
	})
	cases := []struct{ a, b, want int }{
		{0, 0, 0}, {0, 6, 6}, {6, 0, 6}, {0, -6, 6}, {-6, 0, 6},
		{12, 18, 6}, {-12, 18, 6}, {12, -18, 6}, {-12, -18, 6}, {18, 12, 6}, {5, 5, 5}, {-5, 5, 5}, {8, 9, 1}, {1, -1, 1},
	}
	for _, c := range cases {
		got := exact.Gcd(exact.Of(c.a), exact.Of(c.b))
		same(t, "Gcd", got, api.OK, big.NewInt(int64(c.want)))
	}
	nothing(t, "Gcd of nothing and nothing", exact.Gcd(api.Int{Limbs: []uint32{}}, api.Int{}), api.OK, api.OK)
}

// Of two neighbours among Fibonacci's numbers all quotients are 1: no numbers of their size need more of them.
func TestGcdOfFibonacci(t *testing.T) {
	x, y := big.NewInt(1), big.NewInt(1)
	for z := big.NewInt(2); !isBig(z); z = new(big.Int).Add(x, y) {
		x, y = y, z
	}
	same(t, "Gcd", exact.Gcd(of(x), of(y)), api.OK, big.NewInt(1))
	same(t, "Gcd", exact.Gcd(of(turned(y)), of(x)), api.OK, big.NewInt(1))
	common := bit(1024, 0)
	for range 1024 {
		x.Rsh(x, 1)
		y.Rsh(y, 1)
	}
	x.Mul(x, common)
	y.Mul(y, common)
	same(t, "Gcd", exact.Gcd(of(x), of(turned(y))), api.OK, new(big.Int).GCD(nil, nil, x, y))
}
