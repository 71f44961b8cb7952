package verify_test

import (
	"math/rand/v2"
	"slices"
	"testing"

	"distaff/api"
	"distaff/verify"
)

// All small procedures, and programs made by chance, held against the second layer 11; and what Check is for: programs without a flaw do no harm.

// agrees complains, if the two layers answer otherwise, and answers the flaw.
func agrees(t *testing.T, c api.Code) api.Flaw {
	t.Helper()
	got, want := verify.Check(c), secondCheck(c)
	if got != want {
		t.Fatalf("%s: %+v, not %+v", told(c), got, want)
	}
	for n := -1; n <= len(c.Procs); n++ {
		if a, b := verify.Depths(c, n), secondDepths(c, n); !slices.Equal(a, b) {
			t.Fatalf("%s: DEPTHS %v of procedure %d, not %v", told(c), a, n, b)
		}
	}
	return got
}

// allOf goes through all procedures of n of some instructions.
func allOf(l []api.Instr, n int, do func(body []api.Instr)) {
	body := make([]api.Instr, n)
	var put func(at int)
	put = func(at int) {
		if at == n {
			do(body)
			return
		}
		for _, x := range l {
			body[at] = x
			put(at + 1)
		}
	}
	put(0)
}

func TestSmallProcedures(t *testing.T) {
	met := map[api.Flaw]int{}
	for n := range 5 {
		l := instrs("void; pop; return; call 1; tail; 22")
		for a := range n + 1 {
			l = append(l, api.Instr{Op: api.IJump, A: a}, api.Instr{Op: api.IBranch, A: a})
		}
		for depth := range 3 {
			allOf(l, n, func(body []api.Instr) {
				flaw := agrees(t, api.Code{Procs: []api.Proc{{Depth: depth, Code: body}}})
				met[api.Flaw{Err: flaw.Err, At: flaw.At}]++
			})
		}
	}
	for _, e := range []api.Errno{api.ErrOp, api.ErrIndex, api.ErrStack} {
		for at := range 4 {
			if met[api.Flaw{Err: e, At: at}] == 0 {
				t.Errorf("never %d at %d", e, at)
			}
		}
	}
	if met[api.Flaw{}] == 0 || met[api.Flaw{Err: api.ErrEnd}] == 0 || met[api.Flaw{Err: api.ErrEnd, At: 3}] == 0 {
		t.Errorf("%v", met)
	}
}

// Of jumps and branches alone, to all places.
func TestWaysOfSmallProcedures(t *testing.T) {
	const n = 5
	l := instrs("void; return")
	for a := range n {
		l = append(l, api.Instr{Op: api.IJump, A: a}, api.Instr{Op: api.IBranch, A: a})
	}
	flawless := 0
	allOf(l, n, func(body []api.Instr) {
		if body[0].Op == api.IVoid && agrees(t, api.Code{Procs: []api.Proc{{Depth: 2, Code: body}}}) == (api.Flaw{}) {
			flawless++
		}
	})
	if flawless < 100 {
		t.Error(flawless)
	}
}

// chance makes programs by chance.
type chance struct{ *rand.Rand }

// proc is a procedure that has DEPTHS: each instruction's is laid down first, and the ways lead to such as have the right one.
func (r chance) proc(c api.Code, p api.Proc) api.Proc {
	p.Slots = p.Params + 1 + r.IntN(4)
	n := 2 + r.IntN(14)
	depths := []int{0}
	for at := range n - 1 {
		x, behind := r.instr(c, p, depths[at])
		p.Code, depths = append(p.Code, x), append(depths, behind)
	}
	p.Code = append(p.Code, api.Instr{Op: api.IJump, A: n - 1})
	for at, x := range p.Code {
		if to := depths[at]; x.Op == api.IJump || x.Op == api.IBranch {
			if x.Op == api.IBranch {
				to--
			}
			var places []int
			for place, depth := range depths {
				if depth == to {
					places = append(places, place)
				}
			}
			p.Code[at].A = places[r.IntN(len(places))]
		}
	}
	p.Depth = slices.Max(depths) + r.IntN(2)
	return p
}

// instr is an instruction for which there are words enough, and a DEPTH for the one behind it.
func (r chance) instr(c api.Code, p api.Proc, depth int) (api.Instr, int) {
	for {
		x := api.Instr{Op: r.IntN(22)}
		n := count(rows()[x.Op].bound, x, p, c)
		switch {
		case n < 1:
			continue
		case x.Op == api.IPerform:
			x.A = symbol
		case n == 1<<24, x.Op == api.IHandle:
			x.A = r.IntN(depth + 1)
		default:
			x.A = r.IntN(n)
		}
		takes, puts := count(rows()[x.Op].takes, x, p, c), count(rows()[x.Op].puts, x, p, c)
		if takes > depth {
			continue
		}
		if x.Op == api.IHandle {
			x.B = r.IntN(4)
		}
		if rows()[x.Op].follow != "next" && rows()[x.Op].follow != "next,a" {
			return x, r.IntN(4)
		}
		return x, depth - takes + puts
	}
}

// code is a program without a flaw.
func (r chance) code() api.Code {
	c := sample(make([]api.Proc, 1+r.IntN(4))...)
	for n := range c.Procs {
		if n > 0 {
			c.Procs[n] = api.Proc{Params: r.IntN(4), Rest: r.IntN(2) > 0, Free: r.IntN(4)}
		}
	}
	for n, p := range c.Procs {
		c.Procs[n] = r.proc(c, p)
	}
	return c
}

// spoil changes a number, an instruction, or what there is.
func (r chance) spoil(c *api.Code) {
	p := &c.Procs[r.IntN(len(c.Procs))]
	at := r.IntN(len(p.Code))
	numbers := []*int{&p.Params, &p.Slots, &p.Depth, &p.Depth, &p.Free, &p.Code[at].Op, &p.Code[at].A, &p.Code[at].A, &p.Code[at].B}
	switch r.IntN(8) {
	case 0, 1, 2:
		*numbers[r.IntN(len(numbers))] += []int{1, -1}[r.IntN(2)]
	case 3:
		*numbers[r.IntN(len(numbers))] = r.IntN(30)
	case 4:
		p.Code = slices.Delete(p.Code, at, at+1)
	case 5:
		p.Code = slices.Insert(p.Code, at, p.Code[r.IntN(len(p.Code))])
	case 6:
		p.Code[at] = api.Instr{Op: r.IntN(24), A: r.IntN(8), B: r.IntN(5)}
	case 7:
		c.Globals, c.Consts = c.Globals[:r.IntN(4)], c.Consts[:r.IntN(9)]
	}
}

func TestProgramsByChance(t *testing.T) {
	r := chance{rand.New(rand.NewPCG(11, 1))}
	met, ops := map[api.Errno]int{}, map[int]int{}
	for range 3000 {
		c := r.code()
		flawless(t, c)
		agrees(t, c)
		harmless(t, r, c)
		for n, p := range c.Procs {
			for at, depth := range verify.Depths(c, n) {
				if depth >= 0 {
					ops[p.Code[at].Op]++
				}
			}
		}
		for range 1 + r.IntN(4) {
			if r.spoil(&c); slices.ContainsFunc(c.Procs, func(p api.Proc) bool { return len(p.Code) == 0 }) {
				break
			}
			met[agrees(t, c).Err]++
		}
	}
	for op := range 22 {
		if ops[op] < 100 {
			t.Errorf("%d is come to %d times", op, ops[op])
		}
	}
	for _, e := range []api.Errno{api.OK, api.ErrCode, api.ErrOp, api.ErrIndex, api.ErrStack, api.ErrEnd} {
		if met[e] < 20 {
			t.Errorf("%d %d times", e, met[e])
		}
	}
}

// harmless goes ways through a program's procedures by chance: each word that is taken was put there, none is above Depth, each instruction is there, and the DEPTHS are how many words there are.
func harmless(t *testing.T, r chance, c api.Code) {
	t.Helper()
	for n, p := range c.Procs {
		depths := verify.Depths(c, n)
		words, at := []int{}, 0
		for step := 0; step < 60 && at >= 0; step++ {
			if at >= len(p.Code) || len(words) != depths[at] {
				t.Fatalf("%s: at %d of procedure %d there are %d words", told(c), at, n, len(words))
			}
			x := p.Code[at]
			row := rows()[x.Op]
			takes, puts := count(row.takes, x, p, c), count(row.puts, x, p, c)
			if takes > len(words) {
				t.Fatalf("%s: at %d of procedure %d there are too few words", told(c), at, n)
			}
			words = append(words[:len(words)-takes], make([]int, puts)...)
			if len(words) > p.Depth || len(words)+p.Slots > api.MaxFrame {
				t.Fatalf("%s: at %d of procedure %d there are too many words", told(c), at, n)
			}
			at = r.follow(row.follow, at, x.A)
		}
	}
}

// follow is one of the instructions that may follow; -1, if there is none.
func (r chance) follow(follow string, at, a int) int {
	switch {
	case follow == "-":
		return -1
	case follow == "a", follow == "next,a" && r.IntN(2) > 0:
		return a
	}
	return at + 1
}
