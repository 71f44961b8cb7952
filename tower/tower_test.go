package tower_test

import (
	"math"
	"math/big"
	"slices"
	"strconv"
	"testing"

	"distaff/api"
	"distaff/exact"
	"distaff/tower"
)

const (
	leastOne = math.SmallestNonzeroFloat64
	greatest = math.MaxFloat64
)

// sample is a number, and what it is by other means of reckoning.
type sample struct {
	num   api.Num
	whole *big.Int // none: a floating one
	value float64
}

func (s sample) String() string {
	if s.whole != nil {
		return s.whole.String()
	}
	return strconv.FormatFloat(s.value, 'g', -1, 64) + "f"
}

// exactly is the sample of an exact number.
func exactly(n *big.Int) sample {
	x, e := exact.Parse(n.String())
	if e != api.OK {
		panic(n.String())
	}
	value, _ := new(big.Rat).SetInt(n).Float64()
	return sample{api.Num{I: x}, n, value}
}

// floating is the sample of a floating number.
func floating(f float64) sample {
	return sample{num: api.Num{Float: true, F: f}, value: f}
}

// of is the sample of a text, as other means read it: exact, if it is digits alone.
func of(t *testing.T, s string) sample {
	t.Helper()
	if n, ok := new(big.Int).SetString(s, 10); ok {
		return exactly(n)
	}
	f, err := strconv.ParseFloat(s, 64)
	if err != nil {
		t.Fatal(err)
	}
	return floating(f)
}

// nums is the numbers of samples.
func nums(l []sample) []api.Num {
	var all []api.Num
	for _, s := range l {
		all = append(all, s.num)
	}
	return all
}

// power is a to the power of n, and something more.
func power(a, n, more int64) *big.Int {
	x := new(big.Int).Exp(big.NewInt(a), big.NewInt(n), nil)
	return x.Add(x, big.NewInt(more))
}

// wholes is exact numbers around those where something changes, with both signs.
func wholes() []sample {
	tie := new(big.Int).Sub(power(2, 1024, 0), power(2, 970, 0)) // as near to the greatest floating one as to the infinity
	sizes := []*big.Int{
		power(2, 0, 0), power(2, 1, 0), power(2, 1, 1), power(2, 3, -1), big.NewInt(360),
		power(2, 31, 0), power(2, 32, -1), power(2, 32, 0), power(2, 52, 1),
		power(2, 53, -1), power(2, 53, 0), power(2, 53, 1), power(2, 53, 2), power(2, 53, 3),
		power(2, 63, -1), power(2, 63, 0), power(2, 64, -1), power(2, 64, 0), power(10, 21, 0), power(10, 22, 1), power(10, 23, 0),
		power(2, 1023, 0), new(big.Int).Sub(tie, big.NewInt(1)), tie, power(2, 1024, -1), power(2, 1024, 0), power(2, 1024, 1),
		power(10, 400, 0), power(2, 2047, 0), power(2, 2048, -1),
	}
	l := []sample{exactly(new(big.Int))}
	for _, n := range sizes {
		l = append(l, exactly(n), exactly(new(big.Int).Neg(n)))
	}
	return l
}

// floats is floating numbers around those where something changes, with both signs, and one that is not a number.
func floats() []sample {
	l := []sample{floating(math.NaN())}
	for _, f := range []float64{
		0, leastOne, 0x1p-1022, 1e-300, 0.1, 0.25, math.Nextafter(0.5, 0), 0.5, math.Nextafter(0.5, 1), 0.75, math.Nextafter(1, 0),
		1, math.Nextafter(1, 2), 1.5, 2, 2.5, 3, 3.5, 7, 360, 1e10 + 0.5, 0x1p31, 0x1p32, 0x1p52 - 0.5, 0x1p52 + 1, 0x1p53 - 1, 0x1p53, 0x1p53 + 2,
		0x1p63, 0x1p64, 1e21, 1e22, 1e23, 1e300, 0x1p1023, greatest, math.Inf(1),
	} {
		l = append(l, floating(f), floating(math.Copysign(f, -1)))
	}
	return l
}

// samples is both.
func samples() []sample {
	return append(wholes(), floats()...)
}

// pairs calls f with each two of some samples, till a test has failed: one complaint tells enough.
func pairs(t *testing.T, l []sample, f func(a, b sample)) {
	t.Helper()
	for _, a := range l {
		for _, b := range l {
			if f(a, b); t.Failed() {
				return
			}
		}
	}
}

// nans is what is not a number: quiet and signalling, both signs, other bits set or not.
func nans() []float64 {
	var l []float64
	for _, b := range []uint64{0x7FF8000000000001, 0x7FF8000000000000, 0x7FF0000000000001, 0x7FF80000DEADBEEF, 0x7FFFFFFFFFFFFFFF} {
		l = append(l, math.Float64frombits(b), math.Float64frombits(b|1<<63))
	}
	return l
}

// equal asks whether two are the same in all their fields.
func equal(a, b api.Num) bool {
	bits := math.Float64bits(a.F) == math.Float64bits(b.F) || a.F != a.F && b.F != b.F
	return a.Float == b.Float && bits && a.I.Neg == b.I.Neg && slices.Equal(a.I.Limbs, b.I.Limbs)
}

// same complains, if an answer isn't that number.
func same(t *testing.T, what string, got api.Num, e api.Errno, want sample) {
	t.Helper()
	if !equal(got, want.num) || e != api.OK {
		t.Errorf("%s: %v and error %d, not %v", what, got, e, want)
	}
}

// fails complains, if it isn't that error alone.
func fails(t *testing.T, what string, got api.Num, e, want api.Errno) {
	t.Helper()
	if !equal(got, api.Num{}) || e != want {
		t.Errorf("%s: %v and error %d, not error %d alone", what, got, e, want)
	}
}

// The section Types, and P4.1

func TestRight(t *testing.T) {
	for _, s := range samples() {
		if !tower.Right(s.num) {
			t.Errorf("%v can't be", s)
		}
	}
	for _, f := range nans() {
		if !tower.Right(floating(f).num) {
			t.Errorf("%x can't be", math.Float64bits(f))
		}
	}
	for _, a := range []api.Num{{}, {I: api.Int{Limbs: []uint32{}}}, {Float: true, F: 1, I: api.Int{Limbs: []uint32{}}}} {
		if !tower.Right(a) {
			t.Errorf("%v can't be", a)
		}
	}
}

// What a floating number has of an exact one is nothing.
func TestFloatingNumbersThatArentRight(t *testing.T) {
	for _, s := range floats() {
		for _, x := range []api.Int{
			{Neg: true}, {Neg: true, Limbs: []uint32{}}, {Limbs: []uint32{0}}, {Limbs: []uint32{1}}, {Neg: true, Limbs: []uint32{1}}, {Limbs: make([]uint32, 65)},
		} {
			if tower.Right(api.Num{Float: true, F: s.value, I: x}) {
				t.Errorf("%v with %v can be", s, x)
			}
		}
	}
}

// What an exact number has of a floating one is no bit, and itself it is RIGHT.
func TestExactNumbersThatArentRight(t *testing.T) {
	for _, s := range wholes() {
		for _, f := range append(nans(), math.Copysign(0, -1), leastOne, -leastOne, 1, -1, s.value, greatest, math.Inf(1), math.Inf(-1)) {
			if f == 0 && !math.Signbit(f) {
				continue
			}
			if tower.Right(api.Num{F: f, I: s.num.I}) {
				t.Errorf("%v with the floating %v can be", s, f)
			}
		}
	}
	for _, x := range []api.Int{
		{Neg: true}, {Neg: true, Limbs: []uint32{}}, {Limbs: []uint32{0}}, {Neg: true, Limbs: []uint32{0}},
		{Limbs: []uint32{1, 0}}, {Neg: true, Limbs: []uint32{1, 0}}, {Limbs: slices.Repeat([]uint32{1}, 65)}, {Limbs: make([]uint32, 64)},
	} {
		if tower.Right(api.Num{I: x}) {
			t.Errorf("%v can be", x)
		}
	}
}

func TestSame(t *testing.T) {
	l := samples()
	for i, a := range l {
		for j, b := range l {
			if got := tower.Same(a.num, b.num); got != (i == j) {
				t.Errorf("%v and %v: %t", a, b, got)
			}
		}
	}
	for _, a := range nans() {
		for _, b := range nans() {
			if !tower.Same(floating(a).num, floating(b).num) {
				t.Errorf("%x and %x are two", math.Float64bits(a), math.Float64bits(b))
			}
		}
	}
	empty := api.Num{I: api.Int{Limbs: []uint32{}}}
	if !tower.Same(empty, api.Num{}) || !tower.Same(api.Num{}, empty) || tower.Same(empty, floating(0).num) {
		t.Error("nothing isn't the same as nothing alone")
	}
}

func TestInt(t *testing.T) {
	for _, n := range []int{0, 1, -1, 2, -7, math.MaxInt32, math.MinInt32, math.MaxUint32, math.MaxUint32 + 1, math.MaxInt, -math.MaxInt, math.MinInt} {
		same(t, "Int", tower.Int(n), api.OK, exactly(big.NewInt(int64(n))))
	}
}

func TestFlo(t *testing.T) {
	for _, s := range floats() {
		same(t, "Flo", tower.Flo(s.value), api.OK, s)
	}
	for _, f := range nans() {
		same(t, "Flo", tower.Flo(f), api.OK, floating(math.NaN()))
	}
}

// The section Examples.
func TestExamples(t *testing.T) {
	if got, e := tower.Add(tower.Int(1), tower.Flo(0.5)); tower.Text(got) != "1.5" || e != api.OK {
		t.Errorf("1 and 0.5: %v and error %d", got, e)
	}
	left, _ := tower.Parse("9007199254740993")
	right, _ := tower.Parse("9007199254740992.0")
	if order, ok := tower.Cmp(left, right); order != 1 || !ok {
		t.Errorf("Cmp of 9007199254740993 and 9007199254740992.0: %d, %t", order, ok)
	}
	if got, e := tower.Div(tower.Int(6), tower.Int(3)); tower.Text(got) != "2" || e != api.OK {
		t.Errorf("Div of 6 and 3: %v and error %d", got, e)
	}
	if got, e := tower.Div(tower.Int(1), tower.Int(2)); tower.Text(got) != "0.5" || e != api.OK {
		t.Errorf("Div of 1 and 2: %v and error %d", got, e)
	}
}

// The section Errors: each of them comes from somewhere.
func TestErrors(t *testing.T) {
	_, kind := tower.Whole(0, tower.Flo(1), tower.Int(1))
	_, zero := tower.Div(tower.Int(1), tower.Int(0))
	_, raised := tower.Whole(4, tower.Int(1), tower.Int(-1))
	_, fraction := tower.One(0, tower.Flo(0.5))
	_, text := tower.Parse("no number")
	_, big := tower.Mul(exactly(power(2, 2047, 0)).num, tower.Int(2))
	got, want := []api.Errno{kind, zero, raised, fraction, text, big}, []api.Errno{41, 12, 21, 31, 13, 11}
	if !slices.Equal(got, want) {
		t.Errorf("%v, not %v", got, want)
	}
}
