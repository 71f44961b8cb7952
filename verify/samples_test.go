package verify_test

import (
	"fmt"
	"slices"
	"strconv"
	"strings"
	"sync"
	"testing"

	"distaff/api"
	"distaff/reader"
	"distaff/verify"
)

// table has of each instruction, in the order of their numbers: how it is called here, what it takes, what it puts, what its A is below, what follows it.
const table = `const 0 1 consts next
local 0 1 slots next
setlocal 1 0 slots next
free 0 1 free next
global 0 1 globals next
setglobal 1 0 globals next
defglobal 1 0 globals next
box 1 1 - next
unbox 1 1 - next
setbox 2 0 - next
closure free 1 procs next
jump 0 0 instrs a
branch 1 0 instrs next,a
call a+1 1 - next
tail a+1 0 - -
return 1 0 - -
pop 1 0 - next
handle 2a+2 1 clauses next
perform 1 1 consts next
void 0 1 - next
prim 0 1 prims next
fresh 0 1 - next`

// row is what the table has of an instruction.
type row struct{ name, takes, puts, bound, follow string }

var rows = sync.OnceValue(func() []row {
	var l []row
	for line := range strings.SplitSeq(table, "\n") {
		x := strings.Fields(line)
		l = append(l, row{x[0], x[1], x[2], x[3], x[4]})
	}
	return l
})

// instrs is instructions as they are written here: with ; between, each one's name (or its number), A and B.
func instrs(text string) []api.Instr {
	var l []api.Instr
	for line := range strings.SplitSeq(text, ";") {
		words := strings.Fields(line)
		if len(words) == 0 {
			continue
		}
		op := slices.IndexFunc(rows(), func(r row) bool { return r.name == words[0] })
		if op < 0 {
			op = number(words[0])
		}
		words = append(words, "0", "0")
		l = append(l, api.Instr{Op: op, A: number(words[1]), B: number(words[2])})
	}
	return l
}

func number(s string) int {
	n, err := strconv.Atoi(s)
	if err != nil {
		panic(err)
	}
	return n
}

// written is how instructions are written here.
func written(l []api.Instr) string {
	var b strings.Builder
	for _, x := range l {
		if x.Op >= 0 && x.Op < len(rows()) {
			fmt.Fprintf(&b, "%s %d %d; ", rows()[x.Op].name, x.A, x.B)
		} else {
			fmt.Fprintf(&b, "%d %d %d; ", x.Op, x.A, x.B)
		}
	}
	return b.String()
}

// data is the data of a text that has no fault.
func data(text string) []api.Datum {
	l, fault := reader.Read([]byte(text))
	if fault.Err != api.OK {
		panic(text)
	}
	return l
}

// symbol is where the constants of sample have one, kinds how many of them there are.
const symbol, kinds = 4, 8

// sample is a program of these procedures, with a constant of each kind and three globals.
func sample(procs ...api.Proc) api.Code {
	return api.Code{Procs: procs, Consts: data(`7 #t #\a "t" ask (a) (a . b) #(a)`), Globals: []string{"f", "g", "h"}}
}

// proc is a procedure with room for so many words, four slots, and two free values.
func proc(depth int, text string) api.Proc {
	return api.Proc{Slots: 4, Depth: depth, Free: 2, Code: instrs(text)}
}

// main is the same without free values: a program can be begun with it.
func main(depth int, text string) api.Proc {
	p := proc(depth, text)
	p.Free = 0
	return p
}

// alone is a program of one procedure.
func alone(depth int, text string) api.Code {
	return sample(main(depth, text))
}

// full is a program without a flaw that has each instruction, several procedures, and instructions that are never come to.
func full() api.Code {
	return sample(
		api.Proc{Name: "main", Slots: 2, Depth: 5, Code: instrs(`prim 0; const 0; call 1; setlocal 1; local 1; branch 8; void; return;
			closure 1; void; closure 3; const 4; local 0; global 2; closure 2; handle 1 1; setglobal 1;
			void; defglobal 0; fresh; box; unbox; perform 4; pop; jump 26; pop; prim 117; tail; pop; fresh`)},
		api.Proc{Name: "f", Params: 1, Rest: true, Slots: 2, Depth: 2, Code: instrs("fresh; local 0; setbox; jump 0")},
		api.Proc{Name: "g", Params: 2, Slots: 3, Depth: 2, Free: 2, Code: instrs("void; branch 4; void; return; free 0; free 1; closure 2; setlocal 2; local 2; tail; pop")},
		api.Proc{Name: "h", Slots: 1, Depth: 2, Free: 1, Code: instrs("free 0; void; closure 2; return")},
	)
}

// told is what is told of a program.
func told(c api.Code) string {
	var b strings.Builder
	for _, p := range c.Procs {
		fmt.Fprintf(&b, "[%s %d %v %d %d %d: %s] ", p.Name, p.Params, p.Rest, p.Slots, p.Depth, p.Free, written(p.Code[:min(len(p.Code), 40)]))
		if b.Len() > 1000 {
			break
		}
	}
	return b.String()
}

// flawed complains, if a program hasn't this flaw first, or has DEPTHS.
func flawed(t *testing.T, c api.Code, e api.Errno, proc, at int) {
	t.Helper()
	if got := verify.Check(c); got != (api.Flaw{Err: e, Proc: proc, At: at}) {
		t.Errorf("%s: %+v, not %d, %d, %d", told(c), got, e, proc, at)
	}
	for n := -1; n <= min(len(c.Procs), 10); n++ {
		if l := verify.Depths(c, n); len(l) > 0 {
			t.Errorf("%s: DEPTHS %v of procedure %d", told(c), l, n)
		}
	}
}

// flawless complains, if a program has a flaw, or lacks DEPTHS.
func flawless(t *testing.T, c api.Code) {
	t.Helper()
	if got := verify.Check(c); got != (api.Flaw{}) {
		t.Errorf("%s: %+v", told(c), got)
		return
	}
	for n := range min(len(c.Procs), 10) {
		if l := verify.Depths(c, n); len(l) != len(c.Procs[n].Code) {
			t.Errorf("%s: DEPTHS %v of procedure %d", told(c), l, n)
		}
	}
}

// deep complains, if a procedure's DEPTHS aren't these.
func deep(t *testing.T, c api.Code, proc int, want ...int) {
	t.Helper()
	flawless(t, c)
	if got := verify.Depths(c, proc); !slices.Equal(got, want) {
		t.Errorf("%s: DEPTHS %v, not %v", told(c), got, want)
	}
}
