package flo_test

import (
	"math"
	"math/big"
	"slices"
	"strconv"
	"strings"
	"testing"

	"distaff/api"
	"distaff/flo"
)

// P3.2

func TestText(t *testing.T) {
	cases := []struct {
		f    float64
		want string // of f above 0: the other one has - ahead of it
	}{
		{0, "0.0"}, {math.Inf(1), "inf.0"},
		{1, "1.0"}, {10, "10.0"}, {0.5, "0.5"}, {1.5, "1.5"}, {0.1, "0.1"}, {12.75, "12.75"}, {1e10, "10000000000.0"}, {3.14159, "3.14159"},
		{0.001, "0.001"}, {math.Nextafter(0.001, 0), "9.999999999999998e-4"}, {math.Nextafter(0.001, 1), "0.0010000000000000002"},
		{0.0015, "0.0015"}, {0.00099, "9.9e-4"}, {0.0001, "1.0e-4"}, {0.00012, "1.2e-4"}, {0.01, "0.01"},
		{1e20, "100000000000000000000.0"}, {1e21, "1.0e21"}, {1.5e21, "1.5e21"}, {123456789012345678901, "123456789012345680000.0"},
		{math.Nextafter(1e21, 0), "999999999999999900000.0"}, {math.Nextafter(1e21, 1e22), "1.0000000000000001e21"},
		{leastOne, "5.0e-324"}, {2 * leastOne, "1.0e-323"}, {3 * leastOne, "1.5e-323"},
		{2.2250738585072014e-308, "2.2250738585072014e-308"}, {2.2250738585072009e-308, "2.225073858507201e-308"},
		{greatest, "1.7976931348623157e308"}, {math.Nextafter(greatest, 0), "1.7976931348623155e308"},
		{1e22, "1.0e22"}, {1e23, "1.0e23"}, {math.Nextafter(1e23, 1e24), "1.0000000000000001e23"}, {9e99, "9.0e99"}, {1e100, "1.0e100"}, {7e-7, "7.0e-7"}, {1e-10, "1.0e-10"},
		{0.30000000000000004, "0.30000000000000004"}, {9007199254740991, "9007199254740991.0"}, {18014398509481984, "18014398509481984.0"},
		{0.12345678901234568, "0.12345678901234568"}, {1.2345678901234567e-200, "1.2345678901234567e-200"},
		{5.684341886080802e-14, "5.684341886080802e-14"}, // 2 to the power of -44: the nearest of so few digits are read as the one below it
	}
	for _, c := range cases {
		above := c.want
		if math.IsInf(c.f, 0) {
			above = "+" + above
		}
		if got := flo.Text(c.f); got != above {
			t.Errorf("%s, not %s", got, above)
		}
		if got := flo.Text(math.Copysign(c.f, -1)); got != "-"+c.want {
			t.Errorf("%s, not -%s", got, c.want)
		}
	}
	for _, f := range nans() {
		if got := flo.Text(f); got != "+nan.0" {
			t.Errorf("%x: %s", math.Float64bits(f), got)
		}
	}
}

// firstPower is the power of ten of a number's first digit.
func firstPower(r *big.Rat) int {
	f, _ := r.Float64()
	n := int(math.Floor(math.Log10(f)))
	for r.Cmp(ten(n)) < 0 {
		n--
	}
	for r.Cmp(ten(n+1)) >= 0 {
		n++
	}
	return n
}

// decimal is digits, of which the last isn't 0, and the power of ten of the first one.
type decimal struct {
	digits string
	power  int
}

// rounded is the decimals of n digits next to a number of which the first digit's power is given: below it (or itself), and above it.
func rounded(r *big.Rat, power, n int) []*big.Rat {
	unit := ten(power - n + 1)
	whole := new(big.Rat).Quo(r, unit)
	low := new(big.Int).Quo(whole.Num(), whole.Denom())
	high := new(big.Int).Add(low, big.NewInt(1))
	var l []*big.Rat
	for _, x := range []*big.Int{low, high} {
		l = append(l, new(big.Rat).Mul(new(big.Rat).SetInt(x), unit))
	}
	return l
}

// nearer is those of some numbers that are nearest to r: of two as near, both.
func nearer(r *big.Rat, l []*big.Rat) []*big.Rat {
	far := func(x *big.Rat) *big.Rat {
		d := new(big.Rat).Sub(x, r)
		return d.Abs(d)
	}
	if len(l) == 2 {
		switch far(l[0]).Cmp(far(l[1])) {
		case -1:
			return l[:1]
		case 1:
			return l[1:]
		}
	}
	return l
}

// decimalOf is the digits of a number that has an end.
func decimalOf(r *big.Rat) decimal {
	power := firstPower(r)
	digits := ""
	for n := 1; n <= 20; n++ {
		if x := new(big.Rat).Mul(r, ten(n-1-power)); x.IsInt() {
			digits = x.Num().String()
			break
		}
	}
	return decimal{digits, power}
}

// fewest is the decimals that a size may be told by: one, or two that are as near.
func fewest(f float64) []decimal {
	r := ratio(f)
	power := firstPower(r)
	for n := 1; ; n++ {
		var read []*big.Rat
		for _, x := range rounded(r, power, n) {
			if nearest(x) == f {
				read = append(read, x)
			}
		}
		if len(read) > 0 {
			var l []decimal
			for _, x := range nearer(r, read) {
				l = append(l, decimalOf(x))
			}
			return l
		}
	}
}

// laid is the text of a decimal, if the number is or isn't one to be told without a power.
func (d decimal) laid(plain bool) string {
	if !plain {
		rest := d.digits[1:]
		if rest == "" {
			rest = "0"
		}
		return d.digits[:1] + "." + rest + "e" + strconv.Itoa(d.power)
	}
	if d.power < 0 {
		return "0." + strings.Repeat("0", -d.power-1) + d.digits
	}
	if len(d.digits) <= d.power+1 {
		return d.digits + strings.Repeat("0", d.power+1-len(d.digits)) + ".0"
	}
	return d.digits[:d.power+1] + "." + d.digits[d.power+1:]
}

func TestTextHasFewestAndNearestDigits(t *testing.T) {
	many := map[int]bool{}
	for _, f := range sizes() {
		plain := ratio(f).Cmp(ten(-3)) >= 0 && ratio(f).Cmp(ten(21)) < 0
		var want []string
		for _, d := range fewest(f) {
			many[len(d.digits)] = true
			want = append(want, d.laid(plain))
		}
		if got := flo.Text(f); !slices.Contains(want, got) {
			t.Fatalf("%x: %s, not %v", math.Float64bits(f), got, want)
		}
		if got := flo.Text(-f); got != "-"+flo.Text(f) {
			t.Fatalf("%x: %s", math.Float64bits(-f), got)
		}
	}
	if !many[1] || !many[17] {
		t.Error("no number of one digit, or none of seventeen")
	}
}

func TestTextIsReadAsTheNumber(t *testing.T) {
	l := append(samples(), math.Inf(1), math.Inf(-1))
	for _, f := range append(l, nans()...) {
		if got, e := flo.Parse(flo.Text(f)); !flo.Same(got, f) || e != api.OK {
			t.Fatalf("%s is read as %v, error %d", flo.Text(f), got, e)
		}
	}
}
