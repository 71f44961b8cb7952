package verify_test

import (
	"math"
	"slices"
	"strings"
	"testing"

	"distaff/api"
	"distaff/code"
	"distaff/verify"
)

// P11.1 ahead of the instructions, and the sections Types, Errors and Examples.

func TestExamples(t *testing.T) {
	for depth := range 3 {
		c := api.Code{Procs: []api.Proc{{Depth: depth, Code: []api.Instr{{Op: api.IReturn}}}}}
		flawed(t, c, api.ErrStack, 0, 0)
	}
	c := api.Code{Procs: []api.Proc{{Depth: 1, Code: []api.Instr{{Op: api.IVoid}, {Op: api.IReturn}}}}}
	flawless(t, c)
	if got := verify.Check(c); got.Err != 0 || got.Proc != 0 || got.At != 0 {
		t.Error(got)
	}
}

func TestErrors(t *testing.T) {
	flawed(t, api.Code{Procs: []api.Proc{{Slots: -1}}}, 101, 0, 0)
	flawed(t, alone(1, "void; return; 22"), 111, 0, 2)
	flawed(t, alone(1, "void; return; global 3"), 112, 0, 2)
	flawed(t, alone(1, "void; pop; return"), 113, 0, 2)
	flawed(t, alone(1, "jump 1; void"), 114, 0, 1)
}

func TestFlawlessPrograms(t *testing.T) {
	flawless(t, full())
	flawless(t, sample(main(0, "jump 0")))
	flawless(t, alone(1, "void; return"))
	flawless(t, alone(2, "prim 0; const 0; tail 1"))
	flawless(t, alone(3, "prim 0; const 0; const 0; tail 2"))
	flawless(t, sample(main(1, "void; tail"), proc(1, "free 1; return"), proc(0, "jump 0")))
}

// spoilers each make a program with a procedure one that isn't RIGHT.
func spoilers() []func(c *api.Code) {
	var l []func(c *api.Code)
	for _, n := range []int{-1, -180, math.MinInt, api.MaxNum + 1, math.MaxInt} {
		l = append(l,
			func(c *api.Code) { c.Procs[0].Params = n },
			func(c *api.Code) { c.Procs[0].Slots = n },
			func(c *api.Code) { c.Procs[0].Depth = n },
			func(c *api.Code) { c.Procs[0].Free = n },
			func(c *api.Code) { c.Procs[0].Code = append(c.Procs[0].Code, api.Instr{Op: n}) },
			func(c *api.Code) { c.Procs[0].Code = append(c.Procs[0].Code, api.Instr{Op: api.IVoid, A: n}) },
			func(c *api.Code) { c.Procs[0].Code = append(c.Procs[0].Code, api.Instr{Op: api.IVoid, B: n}) },
			func(c *api.Code) {
				c.Procs = append(c.Procs, api.Proc{Depth: 1, Code: []api.Instr{{Op: n}, {Op: api.IReturn}}})
			},
			func(c *api.Code) {
				c.Procs = append(c.Procs, main(1, "void; return"))
				c.Procs[len(c.Procs)-1].Free = n
			},
		)
	}
	return append(l,
		func(c *api.Code) { c.Procs[0].Name = strings.Repeat("a", 101) },
		func(c *api.Code) { c.Globals = append(c.Globals, strings.Repeat("a", 101)) },
		func(c *api.Code) { c.Globals = make([]string, 4001) },
		func(c *api.Code) { c.Consts = slices.Repeat(data("a"), 4001) },
		func(c *api.Code) { c.Procs = append(c.Procs, slices.Repeat([]api.Proc{main(0, "jump 0")}, 4000)...) },
		func(c *api.Code) {
			c.Procs[0].Code = append(c.Procs[0].Code, slices.Repeat(instrs("jump 0"), 40001)...)
		},
		func(c *api.Code) { c.Consts = append(c.Consts, api.Datum{Kind: 8}) },
		func(c *api.Code) { c.Consts = append(c.Consts, api.Datum{Kind: api.DSym}) },
		func(c *api.Code) { c.Consts[symbol].Text = "not a name" },
		func(c *api.Code) { c.Consts = append(c.Consts, api.Datum{Kind: api.DList, N: 1}) },
	)
}

// flaws is programs that have some flaw other than ErrCode.
func flaws() []api.Code {
	first := func(p api.Proc) api.Code { return sample(p, main(0, "jump 0")) }
	return []api.Code{
		first(api.Proc{Params: 1, Slots: 1, Code: instrs("jump 0")}), first(api.Proc{Rest: true, Slots: 1, Code: instrs("jump 0")}), first(proc(0, "jump 0")),
		first(api.Proc{Depth: 181, Code: instrs("jump 0")}), first(api.Proc{}), first(main(1, "22")), first(main(1, "const 1000; return")), first(main(0, "void; return")), first(main(1, "pop")), first(main(1, "void")), first(main(1, "void; branch 1; jump 0")),
	}
}

func TestCheckOfProgramsThatAreNotRight(t *testing.T) {
	flawed(t, api.Code{Globals: make([]string, 4001)}, api.ErrCode, 0, 0)
	flawed(t, api.Code{Consts: []api.Datum{{Kind: -1}}}, api.ErrCode, 0, 0)
	for i := range spoilers() {
		for k, c := range append(flaws(), full(), alone(1, "void; return"), alone(2, "const 4; perform 4; return")) {
			if spoilers()[i](&c); code.Right(c) {
				t.Fatalf("spoiler %d: %d is RIGHT", i, k)
			}
			flawed(t, c, api.ErrCode, 0, 0)
		}
	}
}

func TestCheckOfFlawsThatRightProgramsHave(t *testing.T) {
	for i, c := range flaws() {
		if got := verify.Check(c); got.Err == api.ErrCode || got.Err == api.OK || !code.Right(c) {
			t.Errorf("%d: %+v", i, got)
		}
	}
}

func TestCheckWithoutProcedures(t *testing.T) {
	flawed(t, api.Code{}, api.ErrIndex, 0, 0)
	flawed(t, api.Code{Procs: []api.Proc{}}, api.ErrIndex, 0, 0)
	flawed(t, sample(), api.ErrIndex, 0, 0)
	c := full()
	c.Procs = c.Procs[:0]
	flawed(t, c, api.ErrIndex, 0, 0)
}

func TestCheckOfTheFirstProcedure(t *testing.T) {
	for _, text := range []string{"void; return", "", "22", "const 1000; return", "pop", "void"} {
		for _, depth := range []int{1, 1000} {
			for _, n := range []int{1, 2, 180, 181, api.MaxNum} {
				flawed(t, sample(api.Proc{Params: n, Slots: 4, Depth: depth, Code: instrs(text)}), api.ErrIndex, 0, 0)
				flawed(t, sample(api.Proc{Free: n, Slots: 4, Depth: depth, Code: instrs(text)}), api.ErrIndex, 0, 0)
			}
			flawed(t, sample(api.Proc{Rest: true, Slots: 4, Depth: depth, Code: instrs(text)}), api.ErrIndex, 0, 0)
			flawed(t, sample(api.Proc{Rest: true, Depth: depth, Code: instrs(text)}, api.Proc{}), api.ErrIndex, 0, 0)
			flawed(t, sample(api.Proc{Params: 3, Rest: true, Free: 1, Slots: 4, Depth: depth, Code: instrs(text)}), api.ErrIndex, 0, 0)
		}
	}
	second := api.Proc{Params: 3, Rest: true, Free: 1, Slots: 4, Code: instrs("jump 0")}
	flawless(t, sample(main(0, "jump 0"), second, second))
	flawed(t, sample(second, main(0, "jump 0")), api.ErrIndex, 0, 0)
}

func TestSlotsAreAtLeastParams(t *testing.T) {
	for slots := range 9 {
		for params := range 9 {
			for _, rest := range []bool{false, true} {
				p := api.Proc{Params: params, Rest: rest, Slots: slots, Code: instrs("jump 0")}
				c := sample(main(0, "jump 0"), p, main(0, "jump 0"))
				if slots < params || rest && slots < params+1 {
					flawed(t, c, api.ErrStack, 1, 0)
				} else {
					flawless(t, c)
				}
			}
		}
	}
	for _, n := range []int{179, 180} {
		flawless(t, sample(main(0, "jump 0"), api.Proc{Params: n, Slots: n, Code: instrs("jump 0")}))
		flawless(t, sample(main(0, "jump 0"), api.Proc{Params: n - 1, Rest: true, Slots: n, Code: instrs("jump 0")}))
		flawed(t, sample(main(0, "jump 0"), api.Proc{Params: n, Rest: true, Slots: n, Code: instrs("jump 0")}), api.ErrStack, 1, 0)
		flawed(t, sample(main(0, "jump 0"), api.Proc{Params: n + 1, Slots: n, Code: instrs("jump 0")}), api.ErrStack, 1, 0)
	}
	flawed(t, sample(main(0, "jump 0"), api.Proc{Params: api.MaxNum, Code: instrs("jump 0")}), api.ErrStack, 1, 0)
	flawed(t, sample(main(0, "jump 0"), api.Proc{Params: api.MaxNum, Rest: true, Slots: 1, Code: instrs("jump 0")}), api.ErrStack, 1, 0)
}

func TestSlotsAndDepthTogether(t *testing.T) {
	for slots := range 183 {
		for sum := 179; sum < 184; sum++ {
			p := api.Proc{Slots: slots, Depth: max(0, sum-slots), Code: instrs("jump 0")}
			first, later := sample(p), sample(main(0, "jump 0"), main(0, "jump 0"), p)
			if p.Slots+p.Depth > 180 {
				flawed(t, first, api.ErrStack, 0, 0)
				flawed(t, later, api.ErrStack, 2, 0)
			} else {
				flawless(t, first)
				flawless(t, later)
			}
		}
	}
	for _, n := range []int{181, 65536, api.MaxNum} {
		flawed(t, sample(api.Proc{Slots: n, Code: instrs("jump 0")}), api.ErrStack, 0, 0)
		flawed(t, sample(api.Proc{Depth: n, Code: instrs("jump 0")}), api.ErrStack, 0, 0)
		flawed(t, sample(api.Proc{Slots: n, Depth: n, Code: instrs("jump 0")}), api.ErrStack, 0, 0)
	}
}

func TestFreeValues(t *testing.T) {
	for _, slots := range []int{0, 100, 180} {
		for free := range 183 {
			p := api.Proc{Slots: slots, Depth: 180 - slots, Free: free, Code: instrs("jump 0")}
			if c := sample(main(0, "jump 0"), p); free > 180 {
				flawed(t, c, api.ErrStack, 1, 0)
			} else {
				flawless(t, c)
			}
		}
	}
	flawed(t, sample(main(0, "jump 0"), api.Proc{Free: api.MaxNum, Code: instrs("jump 0")}), api.ErrStack, 1, 0)
}

func TestNoInstructions(t *testing.T) {
	flawed(t, sample(api.Proc{}), api.ErrEnd, 0, 0)
	flawed(t, sample(api.Proc{Slots: 100, Depth: 80, Code: []api.Instr{}}), api.ErrEnd, 0, 0)
	flawed(t, sample(main(0, "jump 0"), main(0, "jump 0"), api.Proc{Params: 2, Rest: true, Slots: 3, Free: 180}, main(0, "jump 0")), api.ErrEnd, 2, 0)
}

// What a procedure says of itself is asked for ahead of its instructions, and these ahead of the next procedure.
func TestOrderOfAProceduresFlaws(t *testing.T) {
	begin := main(0, "jump 0")
	for _, p := range []api.Proc{{Params: 1}, {Rest: true}, {Slots: 181}, {Slots: 100, Depth: 81}, {Free: 181}} {
		flawed(t, sample(begin, p), api.ErrStack, 1, 0)
		for _, text := range []string{"22", "void; return; const 8", "pop", "void; void; void; void", "jump 1; return"} {
			p.Code = instrs(text)
			flawed(t, sample(begin, p), api.ErrStack, 1, 0)
		}
	}
	bad := []struct {
		p  api.Proc
		e  api.Errno
		at int
	}{
		{api.Proc{Slots: 181}, api.ErrStack, 0}, {api.Proc{}, api.ErrEnd, 0}, {main(1, "void; return; 22"), api.ErrOp, 2}, {main(1, "void; return; const 8"), api.ErrIndex, 2}, {main(1, "void; void; return"), api.ErrStack, 1}, {main(2, "void; pop; void; pop"), api.ErrEnd, 3},
	}
	for _, a := range bad {
		for _, b := range bad {
			flawed(t, sample(a.p, b.p), a.e, 0, a.at)
			flawed(t, sample(begin, a.p, b.p), a.e, 1, a.at)
			flawed(t, sample(begin, begin, a.p, begin, b.p), a.e, 2, a.at)
			flawed(t, sample(append(slices.Repeat([]api.Proc{begin}, 3998), a.p, b.p)...), a.e, 3998, a.at)
		}
	}
}
