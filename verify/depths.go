package verify

import (
	"container/heap"
	"slices"
	"sort"

	"distaff/api"
	"distaff/code"
)

// unknown stands for the DEPTH of an instruction that wasn't come to.
const unknown = -1

// walk is how far a procedure's DEPTHS are known.
type walk struct {
	program api.Code
	proc    *api.Proc
	depths  []int
	waiting lowest // those that are known, but weren't looked at yet
}

// lowest is a heap of instructions' places: the lowest one comes off first.
type lowest struct{ sort.IntSlice }

// Push puts a place behind the others.
func (l *lowest) Push(x any) {
	l.IntSlice = append(l.IntSlice, x.(int))
}

// Pop takes the last one.
func (l *lowest) Pop() any {
	last := len(l.IntSlice) - 1
	x := l.IntSlice[last]
	l.IntSlice = l.IntSlice[:last]
	return x
}

// depthsOf is the DEPTHS of a procedure that has instructions, each of them by
// itself without a flaw; or the flaw that is met first.
func depthsOf(c api.Code, proc int) ([]int, api.Flaw) {
	p := &c.Procs[proc]
	w := walk{program: c, proc: p, depths: slices.Repeat([]int{unknown}, len(p.Code))}
	w.come(0, 0)
	for w.waiting.Len() > 0 {
		at := heap.Pop(&w.waiting).(int)
		if e := w.look(at); e != api.OK {
			return nil, api.Flaw{Err: e, Proc: proc, At: at}
		}
	}
	return w.depths, api.Flaw{}
}

// look looks at an instruction, and comes to those that follow it.
func (w *walk) look(at int) api.Errno {
	x := w.proc.Code[at]
	takes, puts := code.Effect(x, w.program)
	left := w.depths[at] - takes
	depth := left + puts
	switch {
	case left < 0 || depth > w.proc.Depth:
		return api.ErrStack
	case goesOn(x) && at+1 == len(w.proc.Code):
		return api.ErrEnd
	case goesOn(x) && !w.come(at+1, depth), jumps(x) && !w.come(x.A, depth):
		return api.ErrStack
	}
	return api.OK
}

// come comes to an instruction with a DEPTH; false, if another one is known.
func (w *walk) come(at, depth int) bool {
	if w.depths[at] == unknown {
		w.depths[at] = depth
		heap.Push(&w.waiting, at)
	}
	return w.depths[at] == depth
}

// goesOn asks whether the next instruction may follow.
func goesOn(x api.Instr) bool {
	return x.Op != api.IJump && x.Op != api.ITail && x.Op != api.IReturn
}

// jumps asks whether the instruction A may follow.
func jumps(x api.Instr) bool {
	return x.Op == api.IJump || x.Op == api.IBranch
}
