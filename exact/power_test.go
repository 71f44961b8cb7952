package exact_test

import (
	"math/big"
	"testing"

	"distaff/api"
	"distaff/exact"
)

// P2.3

// raised checks one power whose exponent can be.
func raised(t *testing.T, x *big.Int, n int64) {
	t.Helper()
	got, e := exact.Pow(of(x), of(big.NewInt(n)))
	// The greatest square that is made divides what comes out: so no product on the way is BIG by itself.
	bounded(t, "Pow", got, e, new(big.Int).Exp(x, big.NewInt(n), nil))
}

func TestPow(t *testing.T) {
	for _, x := range samples() {
		for _, n := range []int64{0, 1, 2, 3, 4, 5, 31, 32, 33} {
			raised(t, x, n)
		}
	}
	for _, size := range []int64{0, 1, 2, 3, 4, 5, 10, 1 << 31, 1 << 32} {
		for n := range int64(api.MaxPower + 1) {
			raised(t, big.NewInt(size), n)
			raised(t, big.NewInt(-size), n)
			if t.Failed() {
				return
			}
		}
	}
}

func TestPowAtItsEdges(t *testing.T) {
	cases := []struct {
		a    *big.Int
		n    int64
		want *big.Int // none: ErrBig
	}{
		{big.NewInt(0), 0, big.NewInt(1)},
		{big.NewInt(0), 1, big.NewInt(0)},
		{big.NewInt(0), api.MaxPower, big.NewInt(0)},
		{big.NewInt(1), api.MaxPower, big.NewInt(1)},
		{big.NewInt(-1), api.MaxPower, big.NewInt(1)},
		{big.NewInt(-1), api.MaxPower - 1, big.NewInt(-1)},
		{big.NewInt(-7), 0, big.NewInt(1)},
		{big.NewInt(-7), 1, big.NewInt(-7)},
		{big.NewInt(-7), 2, big.NewInt(49)},
		{big.NewInt(-7), 3, big.NewInt(-343)},
		{big.NewInt(4), api.MaxPower, bit(2000, 0)},
		{big.NewInt(-4), api.MaxPower, bit(2000, 0)},
		{big.NewInt(5), api.MaxPower, nil},
		{big.NewInt(-5), api.MaxPower, nil},
		{bit(2048, -1), 0, big.NewInt(1)},
		{bit(2048, -1), 1, bit(2048, -1)},
		{turned(bit(2048, -1)), 1, turned(bit(2048, -1))},
		{bit(2048, -1), 2, nil},
		{bit(2048, -1), api.MaxPower, nil},
		{bit(1024, 0), 1, bit(1024, 0)}, // its square would be BIG, but no higher bit is left
		{bit(1023, 0), 2, bit(2046, 0)},
		{bit(1024, 0), 2, nil},
		{bit(682, 0), 3, bit(2046, 0)}, // so would be the next one here
		{turned(bit(682, 0)), 3, turned(bit(2046, 0))},
		{bit(683, 0), 3, nil}, // the square isn't, the last product is
		{bit(512, 0), 4, nil}, // the last square is
		{bit(511, 0), 4, bit(2044, 0)},
		{bit(32, 0), 63, bit(2016, 0)},
		{bit(32, 0), 64, nil},
	}
	for _, c := range cases {
		got, e := exact.Pow(of(c.a), of(big.NewInt(c.n)))
		if c.want == nil {
			nothing(t, "Pow", got, e, api.ErrBig)
			continue
		}
		same(t, "Pow", got, e, c.want)
	}
}

// A power that can't be is told of ahead of what would be too great.
func TestPowersThatCannotBe(t *testing.T) {
	powers := []*big.Int{
		big.NewInt(-1), big.NewInt(-2), big.NewInt(-api.MaxPower), big.NewInt(api.MaxPower + 1), big.NewInt(-api.MaxPower - 1), big.NewInt(1024),
		bit(32, 0), bit(32, 1), bit(63, -1), bit(63, 0), bit(63, 1), bit(64, -1), bit(64, 0), bit(64, 1), bit(96, 2), bit(2048, -1),
	}
	for _, x := range samples() {
		for _, n := range powers {
			got, e := exact.Pow(of(x), of(n))
			nothing(t, "Pow", got, e, api.ErrPower)
			if n.Sign() > 0 {
				got, e = exact.Pow(of(x), of(turned(n)))
				nothing(t, "Pow", got, e, api.ErrPower)
			}
		}
	}
}
