package verify

import "distaff/api"

// mostB is the greatest B that IHandle can have.
const mostB = 3

// looking is a procedure of a RIGHT program, at which it is looked for flaws.
type looking struct {
	program api.Code
	proc    *api.Proc
	number  int
	prims   int // how many primitives there are
}

// flaw is the procedure's first one. The DEPTHS come last: they are told only of
// instructions that there are, and that go on only to others that there are.
func (l *looking) flaw() api.Flaw {
	if e := l.numbers(); e != api.OK {
		return api.Flaw{Err: e, Proc: l.number}
	}
	for at, x := range l.proc.Code {
		if e := l.instr(x); e != api.OK {
			return api.Flaw{Err: e, Proc: l.number, At: at}
		}
	}
	_, flaw := depthsOf(l.program, l.number)
	return flaw
}

// numbers asks for what the procedure says of itself.
func (l *looking) numbers() api.Errno {
	p := l.proc
	switch {
	case p.Slots < names(p), p.Slots+p.Depth > api.MaxFrame, p.Free > api.MaxFrame:
		return api.ErrStack
	case len(p.Code) == 0:
		return api.ErrEnd
	}
	return api.OK
}

// instr asks for an instruction by itself, wherever it stands.
func (l *looking) instr(x api.Instr) api.Errno {
	switch {
	case x.Op > api.IFresh:
		return api.ErrOp
	case x.A >= l.bound(x.Op):
		return api.ErrIndex
	case x.Op == api.IPerform && l.program.Consts[x.A].Kind != api.DSym:
		return api.ErrIndex
	case x.Op == api.IHandle && x.B > mostB:
		return api.ErrIndex
	}
	return api.OK
}

// bound is what an instruction's A is to be below: how many there are of what it is
// a number of. All that a RIGHT program can have are below it, where it is none.
func (l *looking) bound(op int) int {
	switch op {
	case api.IConst, api.IPerform:
		return len(l.program.Consts)
	case api.ILocal, api.ISetLocal:
		return l.proc.Slots
	case api.IFree:
		return l.proc.Free
	case api.IGlobal, api.ISetGlobal, api.IDefGlobal:
		return len(l.program.Globals)
	case api.IClosure:
		return len(l.program.Procs)
	case api.IJump, api.IBranch:
		return len(l.proc.Code)
	case api.IPrim:
		return l.prims
	case api.IHandle:
		return api.MaxClauses + 1
	}
	return api.MaxNum + 1
}

// names is how many of a procedure's slots have a value as it begins.
func names(p *api.Proc) int {
	if p.Rest {
		return p.Params + 1
	}
	return p.Params
}
