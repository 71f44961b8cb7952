package arena_test

import (
	"math/rand/v2"
	"slices"
	"strings"
	"testing"

	"distaff/api"
	"distaff/arena"
)

// Plans of calls, all short ones and long ones by chance, held against the second arena; and P14.4.

// deed is a call: A of Alloc, F of Fresh, M of Mark, S of Sweep, G of Get, P of Set (that puts a word).
type deed struct {
	call  byte
	at, n int
}

// pair is an arena, the second one, and what P14.4 asks for.
type pair struct {
	one   *arena.Arena
	two   *second
	told  []bool // of each word whether it has been told since the last Sweep
	kept  []bool // of each line whether it was MARKED at the last Sweep
	marks []bool
}

func makePair(blocks int) *pair {
	return &pair{
		arena.New(blocks), makeSecond(blocks),
		make([]bool, blocks*blockWords), make([]bool, blocks*blockLines), make([]bool, blocks*blockLines),
	}
}

// does makes a call of both, and complains, if they differ. It answers what Alloc and Fresh told.
func (p *pair) does(t *testing.T, d deed) int {
	t.Helper()
	got, want := 0, 0
	switch d.call {
	case 'A':
		got, want = asked(t, p.one, 'A', d.n), p.two.alloc(d.n)
		p.apart(t, got, d.n)
	case 'F':
		got, want = asked(t, p.one, 'F', d.n), p.two.copied(d.n)
		p.apart(t, got, d.n)
	case 'M':
		p.one.Mark(d.at, d.n)
		p.two.mark(d.at, d.n)
		for at := d.at; at < d.at+d.n; at++ {
			if at >= 0 && at < len(p.told) {
				p.marks[at/lineWords] = true
			}
		}
	case 'S':
		p.one.Sweep()
		p.two.sweep()
		p.kept, p.marks = p.marks, make([]bool, len(p.marks))
		clear(p.told)
	case 'G':
		w, e := p.one.Get(d.at)
		got, want = int(w), int(p.two.words[d.at])
		if (e == api.OK) != (d.at >= 0 && d.at < p.two.total) {
			t.Errorf("Get at %d: %d", d.at, e)
		}
	case 'P':
		if e := p.one.Set(d.at, api.Word(d.n)); e == api.OK {
			p.two.words[d.at] = api.Word(d.n)
		}
	}
	if got != want {
		t.Fatalf("%c at %d of %d: %d, not %d; %s", d.call, d.at, d.n, got, want, strings.Join(p.two.taken, "|"))
	}
	return got
}

// alike complains, if the two have other lines that are TAKEN.
func (p *pair) alike(t *testing.T) {
	t.Helper()
	if got, want := free(p.one), p.two.frees(); !slices.Equal(got, want) || p.one.Empty() != p.two.empty() {
		t.Fatalf("%v lines are free, not %v; %d blocks are empty", got, want, p.one.Empty())
	}
}

// apart complains, if words that are told overlap others, leave their block or the arena, or lie where something was kept.
func (p *pair) apart(t *testing.T, at, n int) {
	t.Helper()
	if at == none {
		return
	}
	if at < 0 || at+n > len(p.told) || at/blockWords != (at+n-1)/blockWords {
		t.Fatalf("%d words at %d", n, at)
	}
	for i := at; i < at+n; i++ {
		if p.told[i] || p.kept[i/lineWords] {
			t.Fatalf("%d words at %d: that one at %d is told already, or was MARKED", n, at, i)
		}
		p.told[i] = true
	}
}

// All plans of four calls, of one block to three.
func TestShortPlans(t *testing.T) {
	calls := []deed{
		{'A', 0, 1}, {'A', 0, 16}, {'A', 0, 17}, {'A', 0, 129}, {'A', 0, 256}, {'F', 0, 16}, {'F', 0, 241},
		{'M', 0, 1}, {'M', 250, 20}, {'S', 0, 0},
	}
	told := map[int]int{}
	for blocks := 1; blocks <= 3; blocks++ {
		plan := make([]deed, 4)
		for number := range 10000 {
			for i := range plan {
				plan[i] = calls[number%10]
				number /= 10
			}
			p := makePair(blocks)
			for _, d := range plan {
				told[p.does(t, d)]++
			}
			p.alike(t)
		}
	}
	for _, at := range []int{none, 0, 1, 16, 17, 32, 33, 256, 272, 273, 512, 528, 529} {
		if told[at] == 0 {
			t.Errorf("never %d", at)
		}
	}
}

// All ways in which the lines of a block can be TAKEN, alone and with others beside it.
func TestAllBlocks(t *testing.T) {
	chance := rand.New(rand.NewPCG(14, 1))
	for lines := range 1 << blockLines {
		p := makePair(1 + lines%3)
		for line := range blockLines * p.one.Blocks() {
			if line < blockLines && lines>>line&1 == 1 || line >= blockLines && chance.IntN(3) == 0 {
				p.does(t, deed{'M', line*lineWords + chance.IntN(lineWords), 1})
			}
		}
		p.does(t, deed{'S', 0, 0})
		p.alike(t)
		for range 4 {
			p.does(t, deed{'A', 0, 1 + chance.IntN(16)})
			p.does(t, deed{'A', 0, 17 + chance.IntN(1+chance.IntN(240))})
		}
		p.alike(t)
	}
}

// some is a number of words, of each size about as often.
func some(chance *rand.Rand) int {
	switch chance.IntN(12) {
	case 0:
		return chance.IntN(600) - 200
	case 1:
		return 17 + chance.IntN(240)
	case 2, 3:
		return 17 + chance.IntN(60)
	}
	return 1 + chance.IntN(17)
}

// anyDeed is a call by chance; Sweep is rare, so that arenas come to be full.
func anyDeed(chance *rand.Rand, words int) deed {
	at := chance.IntN(words+40) - 20
	switch chance.IntN(24) {
	case 0, 1:
		return deed{'F', 0, some(chance)}
	case 2, 3, 4:
		return deed{'M', at, chance.IntN(chance.IntN(60)+1) - 2}
	case 5:
		return deed{'P', at, chance.IntN(1 << 40)}
	case 6:
		return deed{'G', at, 0}
	case 7:
		if chance.IntN(4) == 0 {
			return deed{'S', 0, 0}
		}
	}
	return deed{'A', 0, some(chance)}
}

// P14.4, and the whole chapter: plans by chance, of any number of blocks.
func TestPlansByChance(t *testing.T) {
	chance := rand.New(rand.NewPCG(14, 2))
	var told, refused [256]int
	for range 1500 {
		p := makePair(1 + chance.IntN(1+chance.IntN(24)))
		for range 40 + chance.IntN(160) {
			d := anyDeed(chance, p.two.total)
			at := p.does(t, d)
			if at == none {
				refused[d.call]++
			} else {
				told[d.call]++
			}
			p.alike(t)
		}
		for at := range p.two.total {
			p.does(t, deed{'G', at, 0})
		}
	}
	for _, call := range []byte("AF") {
		if told[call] < 2000 || refused[call] < 2000 {
			t.Errorf("%c: told %d times, refused %d times", call, told[call], refused[call])
		}
	}
	if told['S'] < 500 {
		t.Errorf("Sweep: %d times", told['S'])
	}
}

// P14.4: a collector's life: what was told is MARKED or not, again and again, and stays where it is till then.
func TestLives(t *testing.T) {
	chance := rand.New(rand.NewPCG(14, 3))
	for _, blocks := range []int{1, 2, 7, 40} {
		p := makePair(blocks)
		var live []span
		for range 60 {
			for range 8 * blocks {
				call := []byte("AAAF")[chance.IntN(4)]
				d := deed{call, 0, some(chance)}
				if at := p.does(t, d); at != none {
					live = append(live, span{at, d.n})
					mine(p.one, span{at, d.n})
				}
			}
			held(t, p.one, live)
			live = slices.DeleteFunc(live, func(span) bool { return chance.IntN(3) > 0 })
			for _, s := range live {
				p.does(t, deed{'M', s.at, s.n})
			}
			p.does(t, deed{'S', 0, 0})
			p.alike(t)
			held(t, p.one, live)
		}
	}
}

// mine writes into each word of a span where that begins.
func mine(a *arena.Arena, s span) {
	for at := s.at; at < s.at+s.n; at++ {
		a.Set(at, api.Word(s.at))
	}
}

// held complains, if another one has written into a word of a span.
func held(t *testing.T, a *arena.Arena, live []span) {
	t.Helper()
	for _, s := range live {
		for at := s.at; at < s.at+s.n; at++ {
			if w, _ := a.Get(at); w != api.Word(s.at) {
				t.Fatalf("at %d of %v the word %d", at, s, w)
			}
		}
	}
}
