package tower_test

import (
	"math"
	"slices"
	"testing"

	"distaff/api"
	"distaff/tower"
)

// answer is what a call has answered: its number, and all else.
type answer struct {
	num  api.Num
	n    int
	ok   bool
	e    api.Errno
	text string
}

type call func(a, b api.Num) answer

// reckoner makes a call of one that answers a number and an error.
func reckoner(f func(a, b api.Num) (api.Num, api.Errno)) call {
	return func(a, b api.Num) answer {
		num, e := f(a, b)
		return answer{num: num, e: e}
	}
}

// calls is all calls that are given numbers, at all their ops and outside of them.
func calls() []call {
	l := []call{
		func(a, b api.Num) answer { return answer{ok: tower.Right(a)} },
		func(a, b api.Num) answer { return answer{ok: tower.Same(a, b)} },
		func(a, b api.Num) answer { return answer{text: tower.Text(a)} },
		func(a, b api.Num) answer {
			n, ok := tower.Cmp(a, b)
			return answer{n: n, ok: ok}
		},
		reckoner(tower.Add), reckoner(tower.Sub), reckoner(tower.Mul), reckoner(tower.Div),
	}
	for op := -1; op <= 8; op++ {
		l = append(l,
			reckoner(func(a, b api.Num) (api.Num, api.Errno) { return tower.Whole(op, a, b) }),
			reckoner(func(a, b api.Num) (api.Num, api.Errno) { return tower.One(op, a) }))
	}
	return l
}

// copied is the same answer in other memory.
func (x answer) copied() answer {
	x.num.I.Limbs = slices.Clone(x.num.I.Limbs)
	return x
}

func (x answer) same(y answer) bool {
	return equal(x.num, y.num) && x.n == y.n && x.ok == y.ok && x.e == y.e && x.text == y.text
}

// guarded is a number whose limbs lie between others, and all of these.
type guarded struct {
	num    api.Num
	memory []uint32
}

func guard(a api.Num) guarded {
	n := len(a.I.Limbs)
	memory := slices.Concat([]uint32{2863311530}, a.I.Limbs, []uint32{3735928559, 0, 1, math.MaxUint32})
	a.I.Limbs = memory[1 : n+1]
	return guarded{a, memory}
}

// spoilt writes over limbs.
func spoilt(limbs []uint32) {
	for i := range limbs {
		limbs[i] = ^limbs[i]
	}
}

// stays complains, if a call changes what it is given.
func stays(t *testing.T, f call, i int, a, b api.Num) {
	t.Helper()
	x, y := guard(a), guard(b)
	before := slices.Concat(x.memory, y.memory)
	f(x.num, y.num)
	if !slices.Equal(slices.Concat(x.memory, y.memory), before) {
		t.Errorf("call %d has changed %v or %v", i, a, b)
	}
}

// each tries each call with each two of some numbers, till a test has failed.
func each(t *testing.T, l []api.Num, try func(f call, i int, a, b api.Num)) {
	t.Helper()
	for i, f := range calls() {
		for _, a := range l {
			for _, b := range l {
				if try(f, i, a, b); t.Failed() {
					return
				}
			}
		}
	}
}

// few is some of the samples, and small exponents.
func few() []api.Num {
	l := []api.Num{tower.Int(3), tower.Int(-3), {I: api.Int{Limbs: []uint32{}}}, {Float: true, F: 3, I: api.Int{Limbs: []uint32{}}}}
	for i, a := range nums(samples()) {
		if i%3 == 0 {
			l = append(l, a)
		}
	}
	return l
}

// odd is numbers that aren't RIGHT: they can be handed in, but nothing is promised of them but an end.
func odd() []api.Num {
	var l []api.Num
	for _, limbs := range [][]uint32{
		nil, {0}, {0, 0, 0}, {3, 0}, {0, 1, 0}, {7}, slices.Repeat([]uint32{7}, 65), make([]uint32, 65), make([]uint32, 1<<14), slices.Repeat([]uint32{7}, 1<<14),
	} {
		l = append(l,
			api.Num{I: api.Int{Neg: true, Limbs: limbs}}, api.Num{F: math.Copysign(0, -1), I: api.Int{Limbs: limbs}}, api.Num{F: math.NaN(), I: api.Int{Limbs: limbs}},
			api.Num{Float: true, F: -1.5, I: api.Int{Neg: true, Limbs: limbs}}, api.Num{Float: true, F: math.Inf(1), I: api.Int{Limbs: limbs}})
	}
	return l
}

func TestArgumentsStay(t *testing.T) {
	each(t, few(), func(f call, i int, a, b api.Num) { stays(t, f, i, a, b) })
}

// P1: numbers that aren't RIGHT come to an end as well, and stay as they are.
func TestOddNumbersEnd(t *testing.T) {
	l := append(odd(), tower.Int(0), tower.Int(-6), exactly(power(2, 2048, -1)).num, tower.Flo(0.5), tower.Flo(math.NaN()))
	each(t, l, func(f call, i int, a, b api.Num) { stays(t, f, i, a, b) })
}

// An answer is changed neither by what befalls an argument, nor the other way round.
func TestAnswersAreNew(t *testing.T) {
	each(t, few(), func(f call, i int, a, b api.Num) {
		x, y := guard(a), guard(b)
		got := f(x.num, y.num)
		want := got.copied()
		spoilt(x.memory)
		spoilt(y.memory)
		if !got.same(want) {
			t.Errorf("call %d has kept %v or %v", i, a, b)
		}
		before := slices.Concat(x.memory, y.memory)
		limbs := got.num.I.Limbs
		spoilt(limbs[:cap(limbs)])
		if !slices.Equal(slices.Concat(x.memory, y.memory), before) {
			t.Errorf("call %d answers memory of %v or %v", i, a, b)
		}
	})
}

// P2. What is answered can be, comes again, and is the same if both arguments are one.
func TestAnswersAreRightAndComeAgain(t *testing.T) {
	each(t, few(), func(f call, i int, a, b api.Num) {
		got := f(a, b)
		want := got.copied()
		if !tower.Right(got.num) {
			t.Errorf("call %d of %v and %v answers %v", i, a, b, got.num)
		}
		limbs := got.num.I.Limbs
		spoilt(limbs[:cap(limbs)])
		if !f(a, b).same(want) {
			t.Errorf("call %d of %v and %v: another answer later", i, a, b)
		}
		if !f(a, a).same(f(a, guard(a).num)) {
			t.Errorf("call %d of %v and itself", i, a)
		}
	})
}

func TestNumbersOfIntsAndTextsAreNew(t *testing.T) {
	for range 2 {
		a := tower.Int(-8589934593)
		b, e := tower.Parse("-8589934593")
		same(t, "Int", a, api.OK, of(t, "-8589934593"))
		same(t, "Parse", b, e, of(t, "-8589934593"))
		spoilt(a.I.Limbs[:cap(a.I.Limbs)])
		spoilt(b.I.Limbs[:cap(b.I.Limbs)])
	}
}
