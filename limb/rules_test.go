package limb_test

import (
	"slices"
	"strings"
	"testing"

	"distaff/api"
	"distaff/limb"
)

// answer is what a call has answered: its lists, and all else.
type answer struct {
	lists [][]uint32
	n     uint64
	ok    bool
	e     api.Errno
	text  string
}

// calls is all calls that are given lists.
func calls() []func(a, b []uint32) answer {
	return []func(a, b []uint32) answer{
		func(a, b []uint32) answer { return answer{lists: [][]uint32{limb.Trim(a)}} },
		func(a, b []uint32) answer { return answer{n: uint64(limb.Cmp(a, b))} },
		func(a, b []uint32) answer {
			l, e := limb.Add(a, b)
			return answer{lists: [][]uint32{l}, e: e}
		},
		func(a, b []uint32) answer {
			l, ok := limb.Sub(a, b)
			return answer{lists: [][]uint32{l}, ok: ok}
		},
		func(a, b []uint32) answer {
			l, e := limb.Mul(a, b)
			return answer{lists: [][]uint32{l}, e: e}
		},
		func(a, b []uint32) answer {
			q, r, e := limb.Div(a, b)
			return answer{lists: [][]uint32{q, r}, e: e}
		},
		func(a, b []uint32) answer {
			n, ok := limb.Small(a)
			return answer{n: n, ok: ok}
		},
		func(a, b []uint32) answer { return answer{text: limb.Text(a)} },
	}
}

// copied is the same answer in other memory.
func (x answer) copied() answer {
	var lists [][]uint32
	for _, l := range x.lists {
		lists = append(lists, slices.Clone(l))
	}
	x.lists = lists
	x.text = strings.Clone(x.text)
	return x
}

func (x answer) same(y answer) bool {
	return x.n == y.n && x.ok == y.ok && x.e == y.e && x.text == y.text && slices.EqualFunc(x.lists, y.lists, slices.Equal)
}

// spoilt writes over a list, and over its spare room.
func spoilt(l []uint32) {
	l = l[:cap(l)]
	for i := range l {
		l[i] = ^l[i]
	}
}

// roomy is the same list with spare room, and both together.
func roomy(l []uint32) (list, whole []uint32) {
	whole = append(slices.Clone(l), 3735928559, 0, 1, 4294967295)
	return whole[:len(l)], whole
}

func TestArgumentsStay(t *testing.T) {
	for i, call := range calls() {
		pairs(t, func(a, b []uint32) {
			x, wholeX := roomy(a)
			y, wholeY := roomy(b)
			beforeX, beforeY := slices.Clone(wholeX), slices.Clone(wholeY)
			call(x, y)
			if !slices.Equal(wholeX, beforeX) || !slices.Equal(wholeY, beforeY) {
				t.Errorf("call %d has changed %v or %v", i, a, b)
			}
		})
	}
}

func TestAnswersAreNew(t *testing.T) {
	for i, call := range calls() {
		pairs(t, func(a, b []uint32) {
			x, wholeX := roomy(a)
			y, wholeY := roomy(b)
			got := call(x, y)
			want := got.copied()
			spoilt(x)
			spoilt(y)
			if !got.same(want) {
				t.Errorf("call %d has kept %v or %v", i, a, b)
			}
			beforeX, beforeY := slices.Clone(wholeX), slices.Clone(wholeY)
			for j, l := range got.lists {
				spoilt(l)
				want.lists[j] = slices.Clone(l)
				if !got.same(want) {
					t.Errorf("call %d: of %v and %v: two lists share memory", i, a, b)
				}
			}
			if !slices.Equal(wholeX, beforeX) || !slices.Equal(wholeY, beforeY) {
				t.Errorf("call %d answers memory of %v or %v", i, a, b)
			}
		})
	}
}

// What was answered once stays as it is, whatever is called and written over later, and comes again.
func TestNothingIsKept(t *testing.T) {
	for i, call := range calls() {
		var got, want []answer
		pairs(t, func(a, b []uint32) {
			x := call(a, b)
			got, want = append(got, x), append(want, x.copied())
			for _, l := range call(a, b).lists {
				spoilt(l)
			}
		})
		at := 0
		pairs(t, func(a, b []uint32) {
			if !got[at].same(want[at]) || !call(a, b).same(want[at]) {
				t.Errorf("call %d of %v and %v: another answer later", i, a, b)
			}
			at++
		})
	}
}

func TestOneListTwice(t *testing.T) {
	for i, call := range calls() {
		for _, a := range samples() {
			both := slices.Concat(a, []uint32{5, 6, 7, 0})
			want := call(slices.Clone(both), slices.Clone(both))
			if got := call(both, both); !got.same(want) {
				t.Errorf("call %d of %v and itself: %v, not %v", i, both, got, want)
			}
			want = call(slices.Clone(both), slices.Clone(both[1:]))
			if got := call(both, both[1:]); !got.same(want) {
				t.Errorf("call %d of %v and a piece of it: %v, not %v", i, both, got, want)
			}
		}
	}
}

func TestNumbersAndTextsAreNew(t *testing.T) {
	for range 2 {
		a := limb.Of(8589934593)
		b, e := limb.Parse("8589934593")
		if !slices.Equal(a, []uint32{1, 2}) || !slices.Equal(b, []uint32{1, 2}) || e != api.OK {
			t.Error(a, b, e)
		}
		spoilt(a)
		spoilt(b)
	}
}

// Lists may be of any length: what is BIG is told at once, or gone through once.
func TestLongLists(t *testing.T) {
	const n = 1 << 20
	long, high, zeros := full(n), power(n), make([]uint32, n)
	lists := [][]uint32{long, high, zeros, nil, {1}, full(64), padded(full(64), n)}
	for _, call := range calls() {
		for _, a := range lists {
			for _, b := range lists {
				call(a, b)
			}
		}
	}
	if got, ok := limb.Sub(high, []uint32{1}); !ok || !slices.Equal(got, long) {
		t.Error("the difference of long lists")
	}
	if got := limb.Trim(padded(long, n)); !slices.Equal(got, long) {
		t.Error("a long list, TRIM")
	}
	if limb.Cmp(high, long) != 1 || limb.Cmp(long, high) != -1 || limb.Text(long) != "" || limb.Text(zeros) != "0" {
		t.Error("long lists")
	}
}
