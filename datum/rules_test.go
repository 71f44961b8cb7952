package datum_test

import (
	"math"
	"slices"
	"strconv"
	"testing"

	"distaff/api"
	"distaff/datum"
)

// answer is what a call has answered: its datum, and all else.
type answer struct {
	d    api.Datum
	n    int
	ok   bool
	e    api.Errno
	text string
}

type call func(a, b api.Datum) answer

// calls is all calls that are given data.
func calls() []call {
	return []call{
		func(a, b api.Datum) answer { return answer{ok: datum.Right(a)} },
		func(a, b api.Datum) answer { return answer{ok: datum.Same(a, b)} },
		func(a, b api.Datum) answer { return answer{n: datum.Nodes(a)} },
		func(a, b api.Datum) answer { return answer{d: datum.Copy(a)} },
		func(a, b api.Datum) answer {
			text, e := datum.Print(a)
			return answer{text: text, e: e}
		},
		func(a, b api.Datum) answer { return answer{d: datum.List(a, b)} },
		func(a, b api.Datum) answer { return answer{d: datum.List(a)} },
	}
}

func (x answer) same(y answer) bool {
	return equal(x.d, y.d) && x.n == y.n && x.ok == y.ok && x.e == y.e && x.text == y.text
}

// copied is the same datum in other memory, with spare room behind each of its lists.
func copied(d api.Datum) api.Datum {
	d.Num.I.Limbs = slices.Concat(d.Num.I.Limbs, []uint32{3735928559, 0, 1, math.MaxUint32})[:len(d.Num.I.Limbs)]
	d.Items = append(slices.Clone(d.Items), api.Datum{Kind: 9, N: 3735928559}, api.Datum{Text: "spare"})[:len(d.Items)]
	for i := range d.Items {
		d.Items[i] = copied(d.Items[i])
	}
	return d
}

// whole is a datum with the spare room of its lists as part of them.
func whole(d api.Datum) api.Datum {
	d.Num.I.Limbs = slices.Clone(d.Num.I.Limbs[:cap(d.Num.I.Limbs)])
	d.Items = slices.Clone(d.Items[:cap(d.Items)])
	for i := range d.Items {
		d.Items[i] = whole(d.Items[i])
	}
	return d
}

// spoilt writes over all memory of a datum, spare room included.
func spoilt(d api.Datum) {
	limbs := d.Num.I.Limbs[:cap(d.Num.I.Limbs)]
	for i := range limbs {
		limbs[i] = ^limbs[i]
	}
	items := d.Items[:cap(d.Items)]
	for i := range items {
		spoilt(items[i])
		items[i].Kind++
		items[i].N--
		items[i].Text += "spoilt"
		items[i].Num.F++
		items[i].Items = items[i].Items[:len(items[i].Items)/2]
	}
}

// few is some of the samples, some data that aren't RIGHT, and some with lists of all kinds in them.
func few() []api.Datum {
	var l []api.Datum
	for i, s := range samples() {
		if i%2 == 0 {
			l = append(l, s.d)
		}
	}
	for _, w := range slices.Concat(wrongKinds()[:8], wrongAtoms()[:12], wrongNests()[:7]) {
		l = append(l, w.d)
	}
	return append(l, list(exactly(false, 1, 2, 3), vec(exactly(true, 4, 5), list(floating(0.5), str("a"))), dot(exactly(false, 6), exactly(true, 7))), nested(61, exactly(false, 1), wraps()...))
}

// each tries each call with each two of few data, till a test has failed.
func each(t *testing.T, try func(f call, what string, a, b api.Datum)) {
	t.Helper()
	l := few()
	for i, f := range calls() {
		for j := range l {
			for k := range l {
				if try(f, "call "+strconv.Itoa(i)+" of "+strconv.Itoa(j)+" and "+strconv.Itoa(k), copied(l[j]), copied(l[k])); t.Failed() {
					return
				}
			}
		}
	}
}

func TestArgumentsStay(t *testing.T) {
	each(t, func(f call, what string, a, b api.Datum) {
		x, y := whole(a), whole(b)
		f(a, b)
		if !equal(whole(a), x) || !equal(whole(b), y) {
			t.Errorf("%s has changed what it was given", what)
		}
	})
}

func TestAnswersAreNotChangedByArguments(t *testing.T) {
	each(t, func(f call, what string, a, b api.Datum) {
		got := f(a, b)
		want := whole(got.d)
		spoilt(a)
		spoilt(b)
		if !equal(whole(got.d), want) {
			t.Errorf("%s has kept what it was given", what)
		}
	})
}

func TestArgumentsAreNotChangedByAnswers(t *testing.T) {
	each(t, func(f call, what string, a, b api.Datum) {
		got := f(a, b)
		x, y := whole(a), whole(b)
		spoilt(got.d)
		if !equal(whole(a), x) || !equal(whole(b), y) {
			t.Errorf("%s answers memory of what it was given", what)
		}
	})
}

// No two lists of one answer share memory, not even where those of the argument did.
func TestListsOfAnAnswerAreApart(t *testing.T) {
	shared := list(exactly(false, 1, 2), vec(sym("a"), sym("b")))
	for _, got := range []api.Datum{datum.Copy(list(shared, shared, vec(shared))), datum.List(shared, shared, vec(shared))} {
		want := copied(list(got.Items[1:]...))
		spoilt(got.Items[0])
		if !equal(list(got.Items[1:]...), want) {
			t.Error("two lists of an answer share memory")
		}
	}
	room := datum.List(sym("a"), sym("b"))
	other := append(room.Items[:1:cap(room.Items)], truth(0))
	if again := datum.List(sym("a"), sym("b")); !equal(again, list(sym("a"), sym("b"))) || !equal(other[1], truth(0)) {
		t.Error("two answers share memory")
	}
}

// P2
func TestAnswersComeAgain(t *testing.T) {
	each(t, func(f call, what string, a, b api.Datum) {
		x, y := copied(a), copied(b)
		got := f(a, b)
		want := got
		want.d = copied(got.d)
		spoilt(got.d)
		if again := f(x, y); !again.same(want) {
			t.Errorf("%s: another answer later", what)
		}
		if !f(x, x).same(f(x, copied(x))) {
			t.Errorf("%s: another answer of one twice", what)
		}
	})
}

// P1: data that can't be come to an end, too.
func TestCallsOfWrongDataEnd(t *testing.T) {
	all, l, again := wrongs(), endless(), endless()
	for _, f := range calls() {
		for _, w := range all {
			f(w.d, w.d)
		}
		for i := range l {
			f(list(), l[i].d)
			f(l[i].d, again[i].d)
			f(l[i].d, l[(i+1)%len(l)].d)
		}
	}
}
