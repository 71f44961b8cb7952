package tower_test

import (
	"math"
	"math/big"
	"testing"

	"distaff/api"
	"distaff/tower"
)

// P4.3

const (
	quotient = iota
	rest
	modulo
	divisor
	raised
)

// noWhole is ops that Whole doesn't have.
func noWhole() []int {
	return []int{math.MinInt, -5, -1, 5, 6, 7, math.MaxInt32 + 1, math.MaxInt}
}

// floored is the rest with the divisor's sign: the divisor added goes away again, where the signs are the same already.
func floored(x, y *big.Int) *big.Int {
	m := new(big.Int).Rem(x, y)
	return m.Rem(m.Add(m, y), y)
}

func TestWholeDivides(t *testing.T) {
	pairs(t, wholes(), func(a, b sample) {
		what := a.String() + " and " + b.String()
		for op := quotient; op <= modulo; op++ {
			got, e := tower.Whole(op, a.num, b.num)
			if b.whole.Sign() == 0 {
				fails(t, what, got, e, api.ErrZero)
				continue
			}
			q, r := new(big.Int).QuoRem(a.whole, b.whole, new(big.Int))
			want := []*big.Int{q, r, floored(a.whole, b.whole)}[op]
			same(t, what, got, e, exactly(want))
		}
		got, e := tower.Whole(divisor, a.num, b.num)
		same(t, what, got, e, exactly(new(big.Int).GCD(nil, nil, a.whole, b.whole)))
	})
}

func TestWholeAtEachOp(t *testing.T) {
	cases := []struct{ op, a, b, want int }{
		{quotient, 7, 2, 3}, {quotient, -7, 2, -3}, {quotient, 7, -2, -3}, {quotient, -7, -2, 3}, {quotient, 0, 5, 0},
		{rest, 7, 2, 1}, {rest, -7, 2, -1}, {rest, 7, -2, 1}, {rest, -7, -2, -1}, {rest, 6, 3, 0},
		{modulo, 7, 2, 1}, {modulo, -7, 2, 1}, {modulo, 7, -2, -1}, {modulo, -7, -2, -1}, {modulo, -6, 3, 0},
		{divisor, 12, 18, 6}, {divisor, -12, 18, 6}, {divisor, 0, -6, 6}, {divisor, 0, 0, 0},
		{raised, 2, 10, 1024}, {raised, -3, 5, -243}, {raised, -3, 4, 81}, {raised, 0, 0, 1}, {raised, 0, 5, 0}, {raised, 7, 0, 1}, {raised, -1, 999, -1}, {raised, 1, 1000, 1},
	}
	for _, c := range cases {
		got, e := tower.Whole(c.op, tower.Int(c.a), tower.Int(c.b))
		same(t, "Whole", got, e, exactly(big.NewInt(int64(c.want))))
	}
	got, e := tower.Whole(raised, tower.Int(2), tower.Int(1000))
	same(t, "Whole", got, e, exactly(power(2, 1000, 0)))
}

func TestWholeHandsOnErrors(t *testing.T) {
	for op := quotient; op <= modulo; op++ {
		got, e := tower.Whole(op, tower.Int(7), tower.Int(0))
		fails(t, "a division by nothing", got, e, api.ErrZero)
	}
	most := exactly(power(2, 2048, -1)).num
	cases := []struct {
		a, n api.Num
		want api.Errno
	}{
		{tower.Int(2), tower.Int(-1), api.ErrPower}, {tower.Int(1), tower.Int(1001), api.ErrPower}, {tower.Int(0), most, api.ErrPower}, {most, most, api.ErrPower},
		{tower.Int(5), tower.Int(1000), api.ErrBig}, {most, tower.Int(2), api.ErrBig}, {tower.Int(-5), tower.Int(999), api.ErrBig},
	}
	for _, c := range cases {
		got, e := tower.Whole(raised, c.a, c.n)
		fails(t, "a power", got, e, c.want)
	}
}

// ErrKind comes first: whatever else is wrong.
func TestWholeOfOtherKinds(t *testing.T) {
	exacts := append(nums(wholes()), tower.Int(1001))
	for _, s := range floats() {
		for op := quotient; op <= raised; op++ {
			for _, x := range exacts {
				got, e := tower.Whole(op, s.num, x)
				fails(t, "a floating one first", got, e, api.ErrKind)
				got, e = tower.Whole(op, x, s.num)
				fails(t, "a floating one behind", got, e, api.ErrKind)
			}
			got, e := tower.Whole(op, s.num, s.num)
			fails(t, "two floating ones", got, e, api.ErrKind)
		}
	}
}

func TestWholeAtOtherOps(t *testing.T) {
	for _, op := range noWhole() {
		pairs(t, samples(), func(a, b sample) {
			got, e := tower.Whole(op, a.num, b.num)
			fails(t, a.String()+" and "+b.String(), got, e, api.ErrKind)
		})
	}
}
