package tower_test

import (
	"math"
	"math/big"
	"testing"

	"distaff/api"
	"distaff/tower"
)

// P4.4

const (
	toExact = iota
	toFloating
	unsigned
	down
	towardZero
	toNearest
	root
	turned
)

// oneOf is what One comes to, if it doesn't fail.
func oneOf(t *testing.T, op int, a, want sample) {
	t.Helper()
	got, e := tower.One(op, a.num)
	same(t, "One of "+a.String(), got, e, want)
}

func TestOneOfExactNumbers(t *testing.T) {
	for _, s := range wholes() {
		for _, op := range []int{toExact, down, towardZero, toNearest} {
			oneOf(t, op, s, s)
		}
		oneOf(t, toFloating, s, floating(s.value))
		oneOf(t, unsigned, s, exactly(new(big.Int).Abs(s.whole)))
		oneOf(t, root, s, floating(rootOf(s.value)))
		oneOf(t, turned, s, exactly(new(big.Int).Neg(s.whole)))
	}
}

func TestOneOfFloatingNumbers(t *testing.T) {
	for _, s := range floats() {
		oneOf(t, toFloating, s, s)
		oneOf(t, unsigned, s, floating(math.Float64frombits(math.Float64bits(s.value)&^(1<<63))))
		oneOf(t, root, s, floating(rootOf(s.value)))
		oneOf(t, turned, s, floating(math.Float64frombits(math.Float64bits(s.value)^1<<63)))
		for op := down; op <= toNearest; op++ {
			oneOf(t, op, s, floating(rounded(op, s.value)))
		}
	}
}

// rootOf is the square root, reckoned in four times as many digits.
func rootOf(f float64) float64 {
	if f != f || f == 0 || math.IsInf(f, 1) {
		return f
	}
	if f < 0 {
		return math.NaN()
	}
	x := new(big.Float).SetPrec(212).SetFloat64(f)
	near, _ := x.Sqrt(x).Float64()
	return near
}

// rounded is the whole number that an op rounds to, reckoned by fractions.
func rounded(op int, f float64) float64 {
	if f != f || math.IsInf(f, 0) {
		return f
	}
	r := new(big.Rat).SetFloat64(f)
	whole := new(big.Int)
	switch op {
	case down:
		whole.Div(r.Num(), r.Denom())
	case towardZero:
		whole.Quo(r.Num(), r.Denom())
	case toNearest:
		twice := new(big.Int).Mul(r.Denom(), big.NewInt(2))
		half := new(big.Int).Add(new(big.Int).Mul(r.Num(), big.NewInt(2)), r.Denom())
		tie := new(big.Int)
		whole.DivMod(half, twice, tie)
		if tie.Sign() == 0 && whole.Bit(0) == 1 {
			whole.Sub(whole, big.NewInt(1))
		}
	}
	near, _ := new(big.Rat).SetInt(whole).Float64()
	if near == 0 {
		return math.Copysign(near, f)
	}
	return near
}

func TestOneExactOfFloatingNumbers(t *testing.T) {
	for _, s := range floats() {
		if s.value == s.value && endless(s) == 0 && ratio(s).IsInt() {
			oneOf(t, toExact, s, exactly(ratio(s).Num()))
			continue
		}
		got, e := tower.One(toExact, s.num)
		fails(t, "One of "+s.String(), got, e, api.ErrFloat)
	}
}

func TestOneAtEachOp(t *testing.T) {
	cases := []struct {
		op      int
		a, want string
	}{
		{toExact, "7", "7"}, {toExact, "7.0", "7"}, {toExact, "-7.0", "-7"}, {toExact, "0.0", "0"}, {toExact, "-0.0", "0"}, {toExact, "1e22", "10000000000000000000000"},
		{toFloating, "7", "7.0"}, {toFloating, "0", "0.0"}, {toFloating, "9007199254740993", "9007199254740992.0"}, {toFloating, "0.5", "0.5"}, {toFloating, "-0.0", "-0.0"},
		{unsigned, "-7", "7"}, {unsigned, "7", "7"}, {unsigned, "0", "0"}, {unsigned, "-7.5", "7.5"}, {unsigned, "-0.0", "0.0"}, {unsigned, "-Inf", "+Inf"}, {unsigned, "NaN", "NaN"},
		{down, "-7", "-7"}, {down, "2.5", "2.0"}, {down, "-2.5", "-3.0"}, {down, "0.5", "0.0"}, {down, "-0.5", "-1.0"}, {down, "-0.0", "-0.0"}, {down, "-Inf", "-Inf"},
		{towardZero, "-7", "-7"}, {towardZero, "2.5", "2.0"}, {towardZero, "-2.5", "-2.0"}, {towardZero, "0.5", "0.0"}, {towardZero, "-0.5", "-0.0"}, {towardZero, "+Inf", "+Inf"},
		{toNearest, "-7", "-7"}, {toNearest, "2.5", "2.0"}, {toNearest, "3.5", "4.0"}, {toNearest, "-2.5", "-2.0"}, {toNearest, "0.5", "0.0"}, {toNearest, "-0.5", "-0.0"}, {toNearest, "-0.6", "-1.0"},
		{root, "4", "2.0"}, {root, "2", "1.4142135623730951"}, {root, "0", "0.0"}, {root, "-1", "NaN"}, {root, "6.25", "2.5"}, {root, "-0.0", "-0.0"}, {root, "-0.5", "NaN"},
		{root, "+Inf", "+Inf"}, {root, "-Inf", "NaN"}, {root, "NaN", "NaN"}, {root, power(10, 400, 0).String(), "+Inf"},
		{turned, "7", "-7"}, {turned, "-7", "7"}, {turned, "0", "0"}, {turned, "7.5", "-7.5"}, {turned, "0.0", "-0.0"}, {turned, "-0.0", "0.0"}, {turned, "+Inf", "-Inf"}, {turned, "NaN", "NaN"},
	}
	for _, c := range cases {
		oneOf(t, c.op, of(t, c.a), of(t, c.want))
	}
	for _, s := range []string{"0.5", "-7.25", "NaN", "+Inf", "-Inf", "5e-324"} {
		got, e := tower.One(toExact, of(t, s).num)
		fails(t, "One of "+s, got, e, api.ErrFloat)
	}
}

// Of what is not a number comes such a one, and the sign's bit is 0 where there is to be no sign.
func TestOneOfWhatIsNotANumber(t *testing.T) {
	for _, f := range nans() {
		for op := toFloating; op <= turned; op++ {
			oneOf(t, op, floating(f), floating(math.NaN()))
		}
		if got, _ := tower.One(unsigned, tower.Flo(f)); math.Signbit(got.F) {
			t.Errorf("%x has kept its sign", math.Float64bits(f))
		}
		got, e := tower.One(toExact, tower.Flo(f))
		fails(t, "what is not a number", got, e, api.ErrFloat)
	}
}

func TestOneAtOtherOps(t *testing.T) {
	for _, op := range []int{math.MinInt, -8, -1, 8, 9, math.MaxInt32 + 1, math.MaxInt} {
		for _, s := range samples() {
			got, e := tower.One(op, s.num)
			fails(t, "One of "+s.String(), got, e, api.ErrKind)
		}
	}
}
