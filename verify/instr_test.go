package verify_test

import (
	"strconv"
	"strings"
	"testing"

	"distaff/api"
)

// P11.1, instruction by instruction.

// with is a program whose procedure 1 has an instruction behind its return: it is never come to, and at 2. There are 3 procedures, 8 constants, 3 globals, and in procedure 1 there are 4 slots, 2 free values, 5 instructions.
func with(x api.Instr) api.Code {
	c := sample(main(1, "void; return"), proc(1, "void; return; jump 1; jump 0; jump 4"), main(0, "jump 0"))
	c.Procs[1].Code[2] = x
	return c
}

// numbers is numbers that a RIGHT program may have.
func numbers() []int {
	return []int{0, 1, 2, 3, 4, 5, 7, 8, 20, 21, 22, 117, 118, 180, 181, 255, 256, 4000, 65536, 16777214, api.MaxNum}
}

func TestOps(t *testing.T) {
	for op := range 22 {
		x := api.Instr{Op: op}
		if op == api.IPerform {
			x.A = symbol
		}
		flawless(t, with(x))
	}
	for _, op := range []int{22, 23, 24, 32, 43, 256, 256 + api.IVoid, 65536, api.MaxNum} {
		for _, a := range numbers() {
			flawed(t, with(api.Instr{Op: op, A: a, B: a}), api.ErrOp, 1, 2)
		}
	}
}

func TestBoundsOfA(t *testing.T) {
	if n := len(strings.Split(api.Prims, " ")); n != 118 {
		t.Fatalf("%d primitives", n)
	}
	for _, x := range []struct{ op, number, bound int }{
		{api.IConst, 0, 8}, {api.ILocal, 1, 4}, {api.ISetLocal, 2, 4}, {api.IFree, 3, 2}, {api.IGlobal, 4, 3}, {api.ISetGlobal, 5, 3}, {api.IDefGlobal, 6, 3}, {api.IClosure, 10, 3}, {api.IJump, 11, 5}, {api.IBranch, 12, 5}, {api.IHandle, 17, 21}, {api.IPrim, 20, 118},
	} {
		if x.op != x.number {
			t.Errorf("%d, not %d", x.op, x.number)
		}
		for a := range 130 {
			if c := with(api.Instr{Op: x.op, A: a}); a < x.bound {
				flawless(t, c)
			} else {
				flawed(t, c, api.ErrIndex, 1, 2)
			}
		}
		for _, a := range []int{180, 256, 65536, 16777214, api.MaxNum} {
			flawed(t, with(api.Instr{Op: x.op, A: a}), api.ErrIndex, 1, 2)
		}
	}
}

func TestBoundsOfNothing(t *testing.T) {
	for _, text := range []string{"const 0", "global 0", "setglobal 0", "defglobal 0", "local 0", "setlocal 0", "free 0", "perform 0"} {
		c := api.Code{Procs: []api.Proc{{Depth: 1, Code: instrs("void; return; " + text)}}}
		flawed(t, c, api.ErrIndex, 0, 2)
	}
	for _, text := range []string{"closure 0", "jump 0", "branch 0", "prim 0", "handle 0"} {
		flawless(t, api.Code{Procs: []api.Proc{{Depth: 1, Code: instrs("void; return; " + text)}}})
	}
}

// The bounds hang on how many there are, each on those that it names alone.
func TestBoundsOfMany(t *testing.T) {
	many := map[string]func(c *api.Code, n int){
		"const":     func(c *api.Code, n int) { c.Consts = make([]api.Datum, n) },
		"local":     func(c *api.Code, n int) { c.Procs[1].Slots = n },
		"setlocal":  func(c *api.Code, n int) { c.Procs[1].Slots = n },
		"free":      func(c *api.Code, n int) { c.Procs[1].Free = n },
		"global":    func(c *api.Code, n int) { c.Globals = make([]string, n) },
		"setglobal": func(c *api.Code, n int) { c.Globals = make([]string, n) },
		"defglobal": func(c *api.Code, n int) { c.Globals = make([]string, n) },
		"closure": func(c *api.Code, n int) {
			for len(c.Procs) < n {
				c.Procs = append(c.Procs, main(0, "jump 0"))
			}
		},
		"jump":   func(c *api.Code, n int) { c.Procs[1].Code = append(c.Procs[1].Code, make([]api.Instr, n-3)...) },
		"branch": func(c *api.Code, n int) { c.Procs[1].Code = append(c.Procs[1].Code, make([]api.Instr, n-3)...) },
	}
	for name, grow := range many {
		for _, n := range []int{3, 4, 50, 179} {
			for _, a := range []int{n - 2, n - 1, n, n + 1} {
				c := sample(main(1, "void; return"), main(1, "void; return; "+name+" "+strconv.Itoa(a)))
				if grow(&c, n); a < n {
					flawless(t, c)
				} else {
					flawed(t, c, api.ErrIndex, 1, 2)
				}
			}
		}
	}
}

// Slots, Free and instructions are those of the procedure that the instruction stands in.
func TestBoundsOfOtherProcedures(t *testing.T) {
	few := api.Proc{Depth: 1, Code: instrs("void; return; jump 0")}
	lots := api.Proc{Slots: 9, Depth: 9, Free: 9, Code: instrs("void; return; jump 0; jump 0; jump 0; jump 0; jump 0; jump 0; jump 0")}
	for _, text := range []string{"local", "setlocal", "free", "jump", "branch"} {
		for a := range 9 {
			x := instrs(text + " " + strconv.Itoa(a))[0]
			mine, others := lots, few
			mine.Code, others.Code = instrs(written(lots.Code)), instrs(written(few.Code))
			mine.Code[2], others.Code[2] = x, x
			flawless(t, sample(few, mine, few))
			if (text == "jump" || text == "branch") && a < 3 {
				flawless(t, sample(few, others, lots))
				continue
			}
			flawed(t, sample(few, others, lots), api.ErrIndex, 1, 2)
			flawed(t, sample(few, lots, others), api.ErrIndex, 2, 2)
		}
	}
}

func TestLabelsAreSymbols(t *testing.T) {
	for a := range 12 {
		if c := with(api.Instr{Op: api.IPerform, A: a}); a == symbol {
			flawless(t, c)
		} else {
			flawed(t, c, api.ErrIndex, 1, 2)
		}
	}
	for _, a := range []int{180, 65536, api.MaxNum} {
		flawed(t, with(api.Instr{Op: api.IPerform, A: a}), api.ErrIndex, 1, 2)
	}
	c := sample(main(1, "void; perform 1; return; perform 2; perform 0"))
	c.Consts = data("a error ->b")
	flawless(t, c)
	c.Consts = c.Consts[:2]
	flawed(t, c, api.ErrIndex, 0, 3)
	c.Consts = data("a error (quote a)")
	flawed(t, c, api.ErrIndex, 0, 3)
	c.Consts = data("a 1 c")
	flawed(t, c, api.ErrIndex, 0, 1)
}

func TestHandlers(t *testing.T) {
	for a := range 30 {
		for b := range 12 {
			if c := with(api.Instr{Op: api.IHandle, A: a, B: b}); a <= 20 && b <= 3 {
				flawless(t, c)
			} else {
				flawed(t, c, api.ErrIndex, 1, 2)
			}
		}
	}
	for _, n := range []int{256, 65536, api.MaxNum} {
		flawed(t, with(api.Instr{Op: api.IHandle, B: n}), api.ErrIndex, 1, 2)
		flawed(t, with(api.Instr{Op: api.IHandle, A: n}), api.ErrIndex, 1, 2)
		flawed(t, with(api.Instr{Op: api.IHandle, A: n, B: n}), api.ErrIndex, 1, 2)
	}
}

func TestWithoutBounds(t *testing.T) {
	for op, r := range rows() {
		for _, a := range numbers() {
			if r.bound == "-" {
				for _, b := range numbers() {
					flawless(t, with(api.Instr{Op: op, A: a, B: b}))
				}
			}
			if r.name != "handle" && r.name != "perform" {
				flawless(t, with(api.Instr{Op: op, B: a}))
			}
		}
	}
	for _, b := range numbers() {
		flawless(t, with(api.Instr{Op: api.IPerform, A: symbol, B: b}))
	}
}

// Wherever such an instruction stands, whether it is come to or not; and ahead of what the DEPTHS say.
func TestFlawedInstructions(t *testing.T) {
	bad := []struct {
		text string
		e    api.Errno
	}{{"22", api.ErrOp}, {"const 8", api.ErrIndex}, {"local 4", api.ErrIndex}, {"free 0", api.ErrIndex}, {"closure 1", api.ErrIndex}, {"jump 6", api.ErrIndex}, {"branch 6", api.ErrIndex}, {"perform 0", api.ErrIndex}, {"handle 0 4", api.ErrIndex}, {"prim 118", api.ErrIndex}}
	others := []string{"void; jump 3; pop; void; return; void", "pop; pop; pop; pop; pop; pop", "void; void; void; void; void; void", "void; branch 0; void; branch 0; return; return"}
	for _, x := range bad {
		for _, text := range others {
			for at := range 6 {
				p := main(2, text)
				p.Code[at] = instrs(x.text)[0]
				flawed(t, sample(p), x.e, 0, at)
				for _, y := range bad {
					for behind := at + 1; behind < 6; behind++ {
						p := main(2, text)
						p.Code[at], p.Code[behind] = instrs(x.text)[0], instrs(y.text)[0]
						flawed(t, sample(p), x.e, 0, at)
					}
				}
			}
		}
	}
	last := main(1, "void; return"+strings.Repeat("; void", 39997)+"; const 8")
	flawed(t, sample(last), api.ErrIndex, 0, 39999)
}
