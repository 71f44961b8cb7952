package tower_test

import (
	"cmp"
	"math"
	"math/big"
	"testing"

	"distaff/api"
	"distaff/tower"
)

// P4.2

// twoWays is how Add, Sub and Mul are, by other means of reckoning.
type twoWays struct {
	name     string
	call     func(a, b api.Num) (api.Num, api.Errno)
	whole    func(z, x, y *big.Int) *big.Int
	floating func(a, b float64) float64
}

func reckonings() []twoWays {
	return []twoWays{
		{"Add", tower.Add, (*big.Int).Add, func(a, b float64) float64 { return a + b }},
		{"Sub", tower.Sub, (*big.Int).Sub, func(a, b float64) float64 { return a - b }},
		{"Mul", tower.Mul, (*big.Int).Mul, func(a, b float64) float64 { return a * b }},
	}
}

func TestAddSubMul(t *testing.T) {
	for _, way := range reckonings() {
		pairs(t, samples(), func(a, b sample) {
			what := way.name + " of " + a.String() + " and " + b.String()
			got, e := way.call(a.num, b.num)
			if a.whole == nil || b.whole == nil {
				same(t, what, got, e, floating(way.floating(a.value, b.value)))
				return
			}
			want := way.whole(new(big.Int), a.whole, b.whole)
			if want.BitLen() > 64*32 {
				fails(t, what, got, e, api.ErrBig)
				return
			}
			same(t, what, got, e, exactly(want))
		})
	}
}

// reckoning is one case: two numbers' texts, and that of what comes out.
type reckoning struct{ a, b, want string }

// come checks cases that don't fail.
func come(t *testing.T, what string, call func(a, b api.Num) (api.Num, api.Errno), cases []reckoning) {
	t.Helper()
	for _, c := range cases {
		got, e := call(of(t, c.a).num, of(t, c.b).num)
		same(t, what+" of "+c.a+" and "+c.b, got, e, of(t, c.want))
	}
}

func TestSumsOfBothKinds(t *testing.T) {
	most := power(2, 2048, -1).String()
	come(t, "Add", tower.Add, []reckoning{
		{"1", "2", "3"}, {"1", "0.5", "1.5"}, {"0.5", "1", "1.5"}, {"1.0", "2.0", "3.0"}, {"5", "-5", "0"},
		{"0", "-0.0", "0.0"}, {"-0.0", "-0.0", "-0.0"}, {"0", "0.0", "0.0"}, {"1", "-1.0", "0.0"},
		{"9007199254740993", "0.0", "9007199254740992.0"}, {"9007199254740993", "0", "9007199254740993"},
		{most, "1.0", "+Inf"}, {"1.0", "-" + most, "-Inf"}, {most, "-Inf", "NaN"}, {"NaN", "1", "NaN"}, {"1", "NaN", "NaN"},
		{"+Inf", "-Inf", "NaN"}, {"1.7976931348623157e308", "1.7976931348623157e308", "+Inf"},
	})
	come(t, "Sub", tower.Sub, []reckoning{
		{"1", "2", "-1"}, {"1", "0.5", "0.5"}, {"0.5", "1", "-0.5"}, {"0", "0.0", "0.0"}, {"-0.0", "0", "-0.0"}, {"0.0", "-0.0", "0.0"},
		{"+Inf", "+Inf", "NaN"}, {"+Inf", most, "NaN"}, {most, "0.5", "+Inf"},
	})
	come(t, "Mul", tower.Mul, []reckoning{
		{"3", "-2", "-6"}, {"3", "0.5", "1.5"}, {"0.5", "3", "1.5"}, {"0", "0.5", "0.0"}, {"0", "-0.5", "-0.0"}, {"-1", "0.0", "-0.0"},
		{"0", "+Inf", "NaN"}, {"0", "NaN", "NaN"}, {"0.0", most, "NaN"}, {"2.0", "-" + most, "-Inf"}, {"0", most, "0"},
	})
}

func TestSumsThatAreBig(t *testing.T) {
	most, least := of(t, power(2, 2048, -1).String()).num, of(t, "-"+power(2, 2048, -1).String()).num
	got, e := tower.Add(most, tower.Int(1))
	fails(t, "Add", got, e, api.ErrBig)
	got, e = tower.Add(least, tower.Int(-1))
	fails(t, "Add", got, e, api.ErrBig)
	got, e = tower.Sub(least, tower.Int(1))
	fails(t, "Sub", got, e, api.ErrBig)
	got, e = tower.Sub(tower.Int(-2), most)
	fails(t, "Sub", got, e, api.ErrBig)
	got, e = tower.Mul(most, tower.Int(-2))
	fails(t, "Mul", got, e, api.ErrBig)
	got, e = tower.Mul(least, most)
	fails(t, "Mul", got, e, api.ErrBig)
}

func TestDiv(t *testing.T) {
	pairs(t, samples(), func(a, b sample) {
		what := "Div of " + a.String() + " and " + b.String()
		got, e := tower.Div(a.num, b.num)
		switch {
		case b.whole != nil && b.whole.Sign() == 0:
			fails(t, what, got, e, api.ErrZero)
			return
		case a.whole != nil && b.whole != nil:
			if quotient, rest := new(big.Int).QuoRem(a.whole, b.whole, new(big.Int)); rest.Sign() == 0 {
				same(t, what, got, e, exactly(quotient))
				return
			}
		}
		same(t, what, got, e, floating(a.value/b.value))
	})
}

func TestQuotientsOfBothKinds(t *testing.T) {
	most, half := power(2, 2048, -1).String(), power(2, 2047, 0).String()
	come(t, "Div", tower.Div, []reckoning{
		{"6", "3", "2"}, {"-6", "3", "-2"}, {"6", "-3", "-2"}, {"-6", "-3", "2"}, {"0", "5", "0"}, {"0", "-5", "0"}, {"5", "1", "5"},
		{"1", "2", "0.5"}, {"-7", "2", "-3.5"}, {"7", "-2", "-3.5"}, {"1", "3", "0.3333333333333333"}, {"-1", "-3", "0.3333333333333333"},
		{"6.0", "3", "2.0"}, {"6", "3.0", "2.0"}, {"6.0", "3.0", "2.0"}, {"0", "2.0", "0.0"}, {"0", "-2.0", "-0.0"},
		{"1", "0.0", "+Inf"}, {"1", "-0.0", "-Inf"}, {"-1.0", "0.0", "-Inf"}, {"0", "0.0", "NaN"}, {"0.0", "0.0", "NaN"}, {"-0.0", "-0.0", "NaN"},
		{"NaN", "0.0", "NaN"}, {"+Inf", "0.0", "+Inf"}, {"+Inf", "-2", "-Inf"}, {"2", "-Inf", "-0.0"}, {"+Inf", "+Inf", "NaN"},
		{half, "2", power(2, 2046, 0).String()}, {half, half, "1"}, {most, "-1", "-" + most},
		{most, "2", "+Inf"}, {"1", most, "0.0"}, {"-1", most, "-0.0"}, {most, half, "NaN"}, {"1.0", most, "0.0"}, {most, "+Inf", "NaN"},
		{"9007199254740993", "2", "4503599627370496.0"}, {"9007199254740993", "1.0", "9007199254740992.0"},
	})
}

func TestDivisionByNothing(t *testing.T) {
	for _, s := range samples() {
		for _, zero := range []api.Num{{}, tower.Int(0), {I: api.Int{Limbs: []uint32{}}}} {
			got, e := tower.Div(s.num, zero)
			fails(t, "Div of "+s.String()+" and 0", got, e, api.ErrZero)
		}
	}
}

// endless is -1 and 1 for the infinities, and 0 for all others.
func endless(s sample) int {
	switch {
	case s.whole == nil && math.IsInf(s.value, -1):
		return -1
	case s.whole == nil && math.IsInf(s.value, 1):
		return 1
	}
	return 0
}

// ratio is the number that a finite sample means.
func ratio(s sample) *big.Rat {
	if s.whole != nil {
		return new(big.Rat).SetInt(s.whole)
	}
	return new(big.Rat).SetFloat64(s.value)
}

// order is how two samples stand to each other, reckoned by fractions.
func order(a, b sample) (int, bool) {
	switch {
	case a.value != a.value || b.value != b.value:
		return 0, false
	case endless(a) != 0 || endless(b) != 0:
		return cmp.Compare(endless(a), endless(b)), true
	}
	return ratio(a).Cmp(ratio(b)), true
}

func TestCmp(t *testing.T) {
	pairs(t, samples(), func(a, b sample) {
		got, ok := tower.Cmp(a.num, b.num)
		if want, wantOK := order(a, b); got != want || ok != wantOK {
			t.Errorf("Cmp of %v and %v: %d, %t", a, b, got, ok)
		}
	})
}

func TestOrdersOfBothKinds(t *testing.T) {
	most := power(2, 2048, -1).String()
	cases := []struct {
		a, b string
		want int
	}{
		{"9007199254740991", "9007199254740992.0", -1}, {"9007199254740992", "9007199254740992.0", 0}, {"9007199254740993", "9007199254740992.0", 1},
		{"9007199254740993", "9007199254740994.0", -1}, {"-9007199254740993", "-9007199254740992.0", -1}, {"-9007199254740993", "-9007199254740994.0", 1},
		{"100000000000000000000000", "1e23", 1}, {"9223372036854775807", "9223372036854775808.0", -1}, {"9223372036854775808", "9223372036854775808.0", 0},
		{"0", "0.5", -1}, {"1", "0.5", 1}, {"0", "-0.5", 1}, {"-1", "-0.5", -1}, {"2", "2.5", -1}, {"3", "2.5", 1}, {"-2", "-2.5", 1},
		{"0", "0.0", 0}, {"0", "-0.0", 0}, {"0.0", "-0.0", 0}, {"0", "5e-324", -1}, {"0", "-5e-324", 1}, {"1", "1.0", 0}, {"1.5", "1.5", 0},
		{most, "1.7976931348623157e308", 1}, {"-" + most, "-1.7976931348623157e308", -1}, {most, "+Inf", -1}, {most, "-Inf", 1}, {"-" + most, "-Inf", 1},
		{"0", "+Inf", -1}, {"0.0", "-Inf", 1}, {"+Inf", "+Inf", 0}, {"-Inf", "-Inf", 0}, {"+Inf", "-Inf", 1}, {most, most, 0},
	}
	for _, c := range cases {
		a, b := of(t, c.a).num, of(t, c.b).num
		if got, ok := tower.Cmp(a, b); got != c.want || !ok {
			t.Errorf("Cmp of %s and %s: %d, %t", c.a, c.b, got, ok)
		}
		if got, ok := tower.Cmp(b, a); got != -c.want || !ok {
			t.Errorf("Cmp of %s and %s: %d, %t", c.b, c.a, got, ok)
		}
	}
	for _, s := range samples() {
		for _, f := range nans() {
			left, ok := tower.Cmp(s.num, tower.Flo(f))
			right, either := tower.Cmp(tower.Flo(f), s.num)
			if left != 0 || right != 0 || ok || either {
				t.Errorf("Cmp of %v and what is not a number: %d, %t and %d, %t", s, left, ok, right, either)
			}
		}
	}
}
