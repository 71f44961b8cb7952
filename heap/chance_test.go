package heap_test

import (
	"math/rand/v2"
	"slices"
	"testing"

	"distaff/api"
	"distaff/heap"
	"distaff/word"
)

// Plans of calls, all short ones and long ones by chance, held against the second heap.

// deed is a call: M of Make (a kind, a number of fields); of an object: G of Get, S of Set, P of Pin, U of Unpin, V of Move, K of none: it is asked alone, as behind all others, what it is, and where it was moved.
type deed struct {
	call byte
	w    api.Word
	i, n int
	v    api.Word
}

// pair is a heap and the second one, and the words that they have told.
type pair struct {
	one  *heap.Heap
	two  *second
	told []api.Word
}

func makePair(blocks int) *pair {
	return &pair{heap.New(blocks), makeSecond(blocks), nil}
}

// place is what a call told that answers a word and whether there is one.
func place(t *testing.T, w api.Word, ok bool) int {
	t.Helper()
	if !ok && w != 0 || ok && word.Kind(w) != placeTag {
		t.Errorf("%X %t", w, ok)
	}
	if !ok {
		return none
	}
	return word.Value(w)
}

// tells is place, and keeps the word.
func (p *pair) tells(t *testing.T, w api.Word, ok bool) int {
	t.Helper()
	if ok {
		p.told = append(p.told, w)
	}
	return place(t, w, ok)
}

// as is 1 of what holds, and none of what doesn't.
func as(holds bool) int {
	if holds {
		return 1
	}
	return none
}

// does makes a call of both, and complains, if they differ. It answers none of what was refused.
func (p *pair) does(t *testing.T, d deed) int {
	t.Helper()
	got, want := 0, 0
	switch d.call {
	case 'M':
		w, ok := p.one.Make(d.i, d.n)
		got, want = p.tells(t, w, ok), p.two.make(d.i, d.n)
	case 'V':
		w, ok := p.one.Move(d.w)
		got, want = p.tells(t, w, ok), p.two.move(d.w)
	case 'P':
		got, want = as(p.one.Pin(d.w)), as(p.two.pin(d.w, 1))
	case 'U':
		got, want = as(p.one.Unpin(d.w)), as(p.two.pin(d.w, -1))
	case 'S':
		e := p.one.Set(d.w, d.i, d.v)
		got, want = as(e == api.OK), as(p.two.set(d.w, d.i, d.v))
		if e != api.OK && e != api.ErrHeap {
			t.Errorf("Set: %d", e)
		}
	case 'G':
		v, e := p.one.Get(d.w, d.i)
		sought, ok := p.two.get(d.w, d.i)
		got, want = as(e == api.OK), as(ok)
		if v != sought || e != api.OK && e != api.ErrHeap {
			t.Errorf("Get of field %d of %X: %X and %d, not %X", d.i, d.w, v, e, sought)
		}
	}
	if got != want {
		t.Fatalf("%c of %X (%d, %d): %d, not %d", d.call, d.w, d.i, d.n, got, want)
	}
	to, ok := p.one.Moved(d.w)
	if stands := place(t, to, ok); stands != p.two.moved(d.w) {
		t.Fatalf("behind %c: %X was moved to %d", d.call, d.w, stands)
	}
	if p.one.Kind(d.w) != p.two.kind(d.w) || p.one.Size(d.w) != p.two.size(d.w) || p.one.Pinned(d.w) != p.two.pinned(d.w) {
		t.Fatalf("behind %c: %X is of kind %d with %d fields, pinned %t", d.call, d.w, p.one.Kind(d.w), p.one.Size(d.w), p.one.Pinned(d.w))
	}
	return got
}

// alike complains, if something is other in the heap's arena than the second one says.
func (p *pair) alike(t *testing.T) {
	t.Helper()
	words := look(p.one)
	for at, x := range p.two.things {
		list := x.words()
		if got := words.words[at : at+len(list)]; !slices.Equal(got, list) {
			t.Fatalf("at %d the words %X, not %X", at, got, list)
		}
	}
	for block, n := range words.free {
		if want := p.two.places.Free(block); n != want {
			t.Fatalf("%d lines of block %d are free, not %d", n, block, want)
		}
	}
}

// sweep keeps about so many of ten objects, and all that are pinned: what was moved, and all else, isn't told any more.
func (p *pair) sweep(chance *rand.Rand, ofTen int) {
	var kept []int
	var told []api.Word
	for _, w := range p.told {
		x := p.two.at(w)
		if x != nil && (x.pins > 0 || chance.IntN(10) < ofTen) {
			kept, told = append(kept, word.Value(w)), append(told, w)
			p.one.Arena().Mark(word.Value(w), 1+len(x.fields))
		}
	}
	p.told = told
	p.two.sweep(kept)
	p.one.Arena().Sweep()
}

// All plans of a Make and four calls more, each of these on the first object or on the last one.
func TestShortPlans(t *testing.T) {
	calls := []deed{
		{call: 'M', i: 0, n: 2}, {call: 'M', i: 17, n: 1}, {call: 'M', i: 15, n: 240},
		{call: 'S', i: 0, v: 6}, {call: 'S', i: 1, v: 7}, {call: 'P'}, {call: 'U'}, {call: 'V'},
	}
	counts := map[byte]int{}
	for first := range 3 {
		for number := range 16 * 16 * 16 * 16 {
			p := makePair(2)
			p.does(t, calls[first])
			for range 4 {
				d := calls[number%16/2]
				d.w = p.told[0]
				if number%2 == 1 {
					d.w = p.told[len(p.told)-1]
				}
				number /= 16
				if p.does(t, d) != none {
					counts[d.call]++
				}
			}
			p.alike(t)
		}
	}
	for _, call := range []byte("MSPUV") {
		if counts[call] < 10000 {
			t.Errorf("%c went well %d times", call, counts[call])
		}
	}
}

// size is a number of fields, of small objects mostly.
func size(chance *rand.Rand) int {
	switch chance.IntN(10) {
	case 0:
		return chance.IntN(300) - 20
	case 1:
		return chance.IntN(241)
	case 2, 3:
		return chance.IntN(60)
	}
	return chance.IntN(18)
}

// someWord is a word that was told, the younger ones more often, or any other one.
func (p *pair) someWord(chance *rand.Rand) api.Word {
	if len(p.told) == 0 || chance.IntN(12) == 0 {
		list := others(p.one.Arena().Blocks())
		return list[chance.IntN(len(list))]
	}
	if chance.IntN(2) == 0 {
		return p.told[chance.IntN(len(p.told))]
	}
	return p.told[len(p.told)-1-chance.IntN(min(3, len(p.told)))]
}

// anyDeed is a call by chance.
func (p *pair) anyDeed(chance *rand.Rand) deed {
	w := p.someWord(chance)
	i := chance.IntN(max(1, p.two.size(w)))
	if chance.IntN(6) == 0 {
		i = ends()[chance.IntN(len(ends()))]
	}
	switch chance.IntN(15) {
	case 0, 1, 2, 3:
		return deed{call: 'M', i: chance.IntN(34) - 1, n: size(chance)}
	case 4, 5, 6, 7:
		return deed{call: 'S', w: w, i: i, v: api.Word(chance.Uint64())}
	case 8, 9:
		return deed{call: 'G', w: w, i: i}
	case 10:
		return deed{call: 'P', w: w}
	case 11:
		return deed{call: 'U', w: w}
	case 12:
		return deed{call: 'K', w: w}
	}
	return deed{call: 'V', w: w}
}

// P15.1 to P15.3: plans by chance, of any number of blocks, with sweeps between.
func TestPlansByChance(t *testing.T) {
	chance := rand.New(rand.NewPCG(15, 1))
	var well, refused [256]int
	for range 600 {
		p := makePair(1 + chance.IntN(1+chance.IntN(10)))
		sweeps := 1 + chance.IntN(200)
		for range 250 {
			d := p.anyDeed(chance)
			if p.does(t, d) == none {
				refused[d.call]++
			} else {
				well[d.call]++
			}
			if chance.IntN(sweeps) == 0 {
				p.sweep(chance, chance.IntN(11))
			}
			if chance.IntN(10) == 0 {
				p.alike(t)
			}
		}
		p.alike(t)
	}
	for _, call := range []byte("MGSPUV") {
		if well[call] < 500 || refused[call] < 500 {
			t.Errorf("%c: well %d times, refused %d times", call, well[call], refused[call])
		}
	}
}

// Each FIELD has what was set last, in its OBJECT alone, wherever that stands meanwhile: objects are moved again and again, set where they stand then, and some of them stay behind a sweep.
func TestFieldsFollowTheirObject(t *testing.T) {
	chance := rand.New(rand.NewPCG(15, 2))
	for _, blocks := range []int{2, 3, 8, 30} {
		p := makePair(blocks)
		for range 20 {
			for range 1 + chance.IntN(6*blocks) {
				p.does(t, deed{call: 'M', i: chance.IntN(kinds), n: min(max(size(chance), 0), maxObject)})
			}
			for range 40 * blocks {
				p.moveAndSet(t, chance)
			}
			p.alike(t)
			for _, w := range p.told {
				for i := range p.one.Size(w) {
					p.does(t, deed{call: 'G', w: w, i: i})
				}
			}
			p.sweep(chance, 3)
			p.alike(t)
		}
	}
}

// moveAndSet moves an object, if it can be, and sets one of its fields where it stands then.
func (p *pair) moveAndSet(t *testing.T, chance *rand.Rand) {
	w := p.someWord(chance)
	if p.does(t, deed{call: 'V', w: w}) != none {
		w = p.told[len(p.told)-1]
	}
	if n := p.one.Size(w); n > 0 {
		i := chance.IntN(n)
		p.does(t, deed{call: 'S', w: w, i: i, v: api.Word(chance.Uint64())})
		p.does(t, deed{call: 'G', w: w, i: i})
	}
}
