package code_test

import (
	"math"
	"testing"

	"distaff/api"
	"distaff/code"
)

// P10.3

func effect(t *testing.T, x api.Instr, c api.Code, takes, puts int) {
	t.Helper()
	if a, b := code.Effect(x, c); a != takes || b != puts {
		t.Errorf("%+v: %d, %d, not %d, %d", x, a, b, takes, puts)
	}
}

// As is numbers that an instruction of a RIGHT Code may have.
func as() []int {
	return []int{0, 1, 2, 3, 7, 20, 21, 180, 255, 256, 4000, 65536, 16777214, api.MaxNum}
}

func TestEffectOfInstructionsThatTakeAsManyAlways(t *testing.T) {
	effects := []struct{ op, number, takes, puts int }{
		{api.IConst, 0, 0, 1}, {api.ILocal, 1, 0, 1}, {api.ISetLocal, 2, 1, 0}, {api.IFree, 3, 0, 1}, {api.IGlobal, 4, 0, 1}, {api.ISetGlobal, 5, 1, 0}, {api.IDefGlobal, 6, 1, 0},
		{api.IBox, 7, 1, 1}, {api.IUnbox, 8, 1, 1}, {api.ISetBox, 9, 2, 0}, {api.IJump, 11, 0, 0}, {api.IBranch, 12, 1, 0}, {api.IReturn, 15, 1, 0}, {api.IPop, 16, 1, 0},
		{api.IPerform, 18, 1, 1}, {api.IVoid, 19, 0, 1}, {api.IPrim, 20, 0, 1}, {api.IFresh, 21, 0, 1},
	}
	for _, x := range effects {
		if x.op != x.number {
			t.Errorf("%d, not %d", x.op, x.number)
		}
		for _, c := range programs() {
			for _, a := range as() {
				for _, b := range as() {
					effect(t, api.Instr{Op: x.op, A: a, B: b}, c, x.takes, x.puts)
				}
			}
		}
	}
}

func TestEffectOfCallsAndHandlers(t *testing.T) {
	for _, c := range programs() {
		for _, b := range as() {
			for _, a := range as() {
				effect(t, api.Instr{Op: api.ICall, A: a, B: b}, c, a+1, 1)
				effect(t, api.Instr{Op: api.ITail, A: a, B: b}, c, a+1, 0)
				effect(t, api.Instr{Op: api.IHandle, A: a, B: b}, c, 2*a+2, 1)
			}
			effect(t, api.Instr{Op: 13, A: 0, B: b}, c, 1, 1)
			effect(t, api.Instr{Op: 13, A: 3, B: b}, c, 4, 1)
			effect(t, api.Instr{Op: 14, A: 0, B: b}, c, 1, 0)
			effect(t, api.Instr{Op: 14, A: 3, B: b}, c, 4, 0)
			effect(t, api.Instr{Op: 17, A: 0, B: b}, c, 2, 1)
			effect(t, api.Instr{Op: 17, A: 3, B: b}, c, 8, 1)
			effect(t, api.Instr{Op: 17, A: 20, B: b}, c, 42, 1)
		}
	}
}

func TestEffectOfClosures(t *testing.T) {
	c := api.Code{Procs: []api.Proc{{Free: 3}, {Params: 9, Slots: 8, Depth: 7}, {Free: 1}, {Free: api.MaxNum}}}
	for _, b := range as() {
		for a, free := range []int{3, 0, 1, api.MaxNum} {
			effect(t, api.Instr{Op: api.IClosure, A: a, B: b}, c, free, 1)
			effect(t, api.Instr{Op: 10, A: a, B: b}, c, free, 1)
		}
		for _, a := range []int{4, 5, 100, api.MaxNum} {
			effect(t, api.Instr{Op: api.IClosure, A: a, B: b}, c, 0, 1)
		}
		effect(t, api.Instr{Op: api.IClosure, B: b}, api.Code{}, 0, 1)
		effect(t, api.Instr{Op: api.IClosure, A: 1, B: b}, api.Code{Procs: c.Procs[:1]}, 0, 1)
	}
	for _, a := range []int{-1, math.MinInt, math.MaxInt} {
		effect(t, api.Instr{Op: api.IClosure, A: a}, c, 0, 1)
	}
	many := api.Code{Procs: make([]api.Proc, 4000)}
	for i := range many.Procs {
		many.Procs[i].Free = i % 180
	}
	for i := range many.Procs {
		effect(t, api.Instr{Op: api.IClosure, A: i}, many, i%180, 1)
	}
}

func TestEffectOfWhatIsNoInstruction(t *testing.T) {
	for _, op := range []int{-1, -2, -10, 22, 23, 24, 100, 256 + api.ICall, 1<<32 + api.IClosure, api.MaxNum, math.MinInt, math.MaxInt} {
		for _, a := range as() {
			effect(t, api.Instr{Op: op, A: a, B: a}, full(), 0, 0)
		}
	}
}
