package compile

import (
	"slices"

	"distaff/api"
	"distaff/code"
)

// procedure is one that is being made, in the program that it belongs to.
//
// Its free values are those that its CODE asks for, in that order: CODE goes through
// a term as layer 9 does, so that they are the LOCAL names in Free of it.
type procedure struct {
	*program
	number int
	made   api.Proc
	slots  map[string]int // of those names that have one now
	free   listed[string] // the free values' names
	depth  int            // DEPTH where the next instruction comes to lie
}

// begin begins a procedure: it has the next number, and its names have slots.
func (p *program) begin(made api.Proc, names []string) *procedure {
	begun := &procedure{program: p, number: len(p.procs), made: made, slots: map[string]int{}}
	p.procs = append(p.procs, made)
	begun.take(names)
	for _, name := range names {
		if p.isChanging(name) {
			begun.lay(api.Instr{Op: api.ILocal, A: begun.slots[name]})
			begun.lay(api.Instr{Op: api.IBox})
			begun.lay(api.Instr{Op: api.ISetLocal, A: begun.slots[name]})
		}
	}
	return begun
}

// end puts a procedure in its place in the program.
func (p *procedure) end() {
	p.made.Free = len(p.free.items)
	p.procs[p.number] = p.made
}

// lay lays an instruction down, and answers its place.
func (p *procedure) lay(x api.Instr) int {
	takes, puts := code.Effect(x, api.Code{Procs: p.procs})
	p.depth += puts - takes
	p.made.Depth = max(p.made.Depth, p.depth)
	p.made.Code = append(p.made.Code, x)
	p.instrs++
	return len(p.made.Code) - 1
}

// leadHere lets the jump or branch in a place lead to the next instruction.
func (p *procedure) leadHere(at int) {
	p.made.Code[at].A = len(p.made.Code)
}

// take gives each of some names the lowest slot that isn't taken. Those that took
// theirs last give them back first: so that is how many have one.
func (p *procedure) take(names []string) {
	for _, name := range names {
		slot := len(p.slots)
		p.slots[name] = slot
	}
	p.made.Slots = max(p.made.Slots, len(p.slots))
}

// place lays down a name's PLACE.
func (p *procedure) place(name string) {
	slot, isBound := p.slots[name]
	global := p.globals.number(name)
	switch {
	case isBound:
		p.lay(api.Instr{Op: api.ILocal, A: slot})
	case isLocal(name):
		p.lay(api.Instr{Op: api.IFree, A: p.free.meet(name, name)})
	case global >= 0:
		p.lay(api.Instr{Op: api.IGlobal, A: global})
	default:
		p.lay(api.Instr{Op: api.IPrim, A: slices.Index(p.prims, name)})
	}
}

// closure makes a procedure of a term, and lays down the CODE that gives it as a value.
func (p *procedure) closure(made api.Proc, names []string, body *api.Core) {
	inner := p.begin(made, names)
	inner.term(body, true)
	inner.end()
	for _, name := range inner.free.items {
		if p.isTooGreat() { // through procedures within one another there may go far more names than there are terms
			break
		}
		p.place(name)
	}
	p.lay(api.Instr{Op: api.IClosure, A: inner.number})
}
