package exact_test

import (
	"math/big"
	"slices"
	"testing"

	"distaff/api"
	"distaff/exact"
)

// answer is what a call has answered: its numbers, and all else.
type answer struct {
	numbers []api.Int
	n       int
	ok      bool
	e       api.Errno
	text    string
}

// one is what a call answers that answers a number and an error.
func one(x api.Int, e api.Errno) answer {
	return answer{numbers: []api.Int{x}, e: e}
}

// calls is all calls that are given numbers.
func calls() []func(a, b api.Int) answer {
	return []func(a, b api.Int) answer{
		func(a, b api.Int) answer { return answer{ok: exact.Right(a)} },
		func(a, b api.Int) answer { return answer{ok: exact.Same(a, b)} },
		func(a, b api.Int) answer {
			n, ok := exact.Small(a)
			return answer{n: n, ok: ok}
		},
		func(a, b api.Int) answer { return answer{n: exact.Cmp(a, b)} },
		func(a, b api.Int) answer { return one(exact.Neg(a), api.OK) },
		func(a, b api.Int) answer { return one(exact.Add(a, b)) },
		func(a, b api.Int) answer { return one(exact.Sub(a, b)) },
		func(a, b api.Int) answer { return one(exact.Mul(a, b)) },
		func(a, b api.Int) answer {
			quotient, rest, e := exact.Quo(a, b)
			return answer{numbers: []api.Int{quotient, rest}, e: e}
		},
		func(a, b api.Int) answer { return one(exact.Mod(a, b)) },
		func(a, b api.Int) answer { return one(exact.Gcd(a, b), api.OK) },
		func(a, b api.Int) answer { return one(exact.Pow(a, b)) },
		func(a, b api.Int) answer { return answer{text: exact.Text(a)} },
	}
}

// copied is the same answer in other memory.
func (x answer) copied() answer {
	numbers := slices.Clone(x.numbers)
	for i := range numbers {
		numbers[i].Limbs = slices.Clone(numbers[i].Limbs)
	}
	x.numbers = numbers
	return x
}

func (x answer) same(y answer) bool {
	return x.n == y.n && x.ok == y.ok && x.e == y.e && x.text == y.text && slices.EqualFunc(x.numbers, y.numbers, equal)
}

// roomy is the same number with spare room, and that with the room.
func roomy(x api.Int) (number api.Int, whole []uint32) {
	whole = append(slices.Clone(x.Limbs), 3735928559, 0, 1, 4294967295)
	return api.Int{Neg: x.Neg, Limbs: whole[:len(x.Limbs)]}, whole
}

// spoilt writes over a number's limbs, and over their spare room.
func spoilt(x api.Int) {
	l := x.Limbs[:cap(x.Limbs)]
	for i := range l {
		l[i] = ^l[i]
	}
}

// few is some of the samples, and small powers.
func few() []api.Int {
	l := []api.Int{exact.Of(3), exact.Of(-3), {Limbs: []uint32{}}}
	for i, x := range samples() {
		if i%3 == 0 {
			l = append(l, of(x))
		}
	}
	return l
}

// odd is numbers that aren't RIGHT: they can be handed in, but nothing is promised of them but an end.
func odd() []api.Int {
	var l []api.Int
	for _, limbs := range [][]uint32{
		nil, {0}, {0, 0, 0}, {3, 0}, {0, 1, 0}, append(of(bit(2048, -1)).Limbs, 0), of(bit(2048, 0)).Limbs, of(bit(4000, -1)).Limbs,
		make([]uint32, 65), make([]uint32, 1<<14), slices.Repeat([]uint32{7}, 1<<14),
	} {
		l = append(l, api.Int{Neg: true, Limbs: limbs}, api.Int{Limbs: limbs})
	}
	return l
}

// eachCall tries each call with each two of some numbers, till a test has failed.
func eachCall(t *testing.T, l []api.Int, try func(i int, call func(a, b api.Int) answer, a, b api.Int)) {
	t.Helper()
	for i, call := range calls() {
		for _, a := range l {
			for _, b := range l {
				if try(i, call, a, b); t.Failed() {
					return
				}
			}
		}
	}
}

// stay complains, if a call changes what it is given.
func stay(t *testing.T, i int, call func(a, b api.Int) answer, a, b api.Int) {
	t.Helper()
	x, wholeX := roomy(a)
	y, wholeY := roomy(b)
	beforeX, beforeY := slices.Clone(wholeX), slices.Clone(wholeY)
	call(x, y)
	if !slices.Equal(wholeX, beforeX) || !slices.Equal(wholeY, beforeY) {
		t.Errorf("call %d has changed one of two numbers of %d and %d limbs", i, len(a.Limbs), len(b.Limbs))
	}
}

func TestArgumentsStay(t *testing.T) {
	eachCall(t, few(), func(i int, call func(a, b api.Int) answer, a, b api.Int) { stay(t, i, call, a, b) })
}

// P1: numbers that aren't RIGHT come to an end as well, and stay as they are.
func TestOddNumbersEnd(t *testing.T) {
	l := append(odd(), exact.Of(0), exact.Of(1), exact.Of(-6), of(bit(2048, -1)))
	eachCall(t, l, func(i int, call func(a, b api.Int) answer, a, b api.Int) { stay(t, i, call, a, b) })
}

func TestAnswersAreNew(t *testing.T) {
	eachCall(t, few(), func(i int, call func(a, b api.Int) answer, a, b api.Int) {
		x, wholeX := roomy(a)
		y, wholeY := roomy(b)
		got := call(x, y)
		want := got.copied()
		spoilt(x)
		spoilt(y)
		if !got.same(want) {
			t.Errorf("call %d has kept %v or %v", i, a, b)
		}
		beforeX, beforeY := slices.Clone(wholeX), slices.Clone(wholeY)
		for j, number := range got.numbers {
			spoilt(number)
			want.numbers[j].Limbs = slices.Clone(number.Limbs)
			if !got.same(want) {
				t.Errorf("call %d of %v and %v: two lists share memory", i, a, b)
			}
		}
		if !slices.Equal(wholeX, beforeX) || !slices.Equal(wholeY, beforeY) {
			t.Errorf("call %d answers memory of %v or %v", i, a, b)
		}
	})
}

// What is answered can be, comes again, and is the same if both arguments are one.
func TestAnswersAreRightAndComeAgain(t *testing.T) {
	eachCall(t, few(), func(i int, call func(a, b api.Int) answer, a, b api.Int) {
		got := call(a, b)
		want := got.copied()
		for _, number := range got.numbers {
			if !exact.Right(number) {
				t.Errorf("call %d of %v and %v answers %v", i, a, b, number)
			}
			spoilt(number)
		}
		if !call(a, b).same(want) {
			t.Errorf("call %d of %v and %v: another answer later", i, a, b)
		}
		if other, _ := roomy(a); !call(a, a).same(call(a, other)) {
			t.Errorf("call %d of %v and itself", i, a)
		}
	})
}

func TestNumbersOfIntsAndTextsAreNew(t *testing.T) {
	for range 2 {
		a := exact.Of(-8589934593)
		b, e := exact.Parse("-8589934593")
		same(t, "Of", a, api.OK, big.NewInt(-8589934593))
		same(t, "Parse", b, e, big.NewInt(-8589934593))
		spoilt(a)
		spoilt(b)
	}
}
