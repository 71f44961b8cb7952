package compile

import (
	"slices"

	"distaff/api"
)

// What IHandle's B is made of.
const (
	staysDeep = 1
	inTail    = 2
)

// term lays down a term's CODE.
func (p *procedure) term(c *api.Core, tail bool) {
	switch {
	case len(c.Parts) < leastParts(c): // without CODE of it there is a word too few, which is a flaw
	case c.Kind == api.CIf:
		p.choice(c, tail)
	case c.Kind == api.CSeq:
		p.sequence(c.Parts, tail)
	case c.Kind == api.CCall:
		p.call(c.Parts, tail)
	case c.Kind == api.CLet:
		p.let(c, tail)
	case c.Kind == api.CLetrec:
		p.letrec(c, tail)
	default:
		p.simple(c, tail)
		if tail {
			p.lay(api.Instr{Op: api.IReturn})
		}
	}
}

// leastParts is how many parts a term has at least, if layer 8 made it.
func leastParts(c *api.Core) int {
	switch c.Kind {
	case api.CSet, api.CLambda, api.CCall, api.CPerform, api.CDefine:
		return 1
	case api.CSeq, api.CHandle:
		return 2
	case api.CIf:
		return 3
	case api.CLet, api.CLetrec:
		return len(c.Names) + 1
	}
	return 0
}

// simple lays down the CODE of a term behind which IReturn follows in TAIL place.
func (p *procedure) simple(c *api.Core, tail bool) {
	switch c.Kind {
	case api.CConst:
		p.lay(api.Instr{Op: api.IConst, A: p.constant(c.Datum)})
	case api.CVoid:
		p.lay(api.Instr{Op: api.IVoid})
	case api.CVar:
		p.variable(c.Name)
	case api.CSet:
		p.set(c)
	case api.CDefine:
		p.term(&c.Parts[0], false)
		p.setGlobal(api.IDefGlobal, c.Name)
	case api.CLambda:
		p.closure(api.Proc{Name: "lambda", Params: params(c), Rest: c.Rest}, c.Names, &c.Parts[0])
	case api.CPerform:
		p.term(&c.Parts[0], false)
		p.lay(api.Instr{Op: api.IPerform, A: p.symbol(c.Name)})
	case api.CHandle:
		p.handle(c, tail)
	}
}

// params is how many Params a CLambda's procedure has.
func params(c *api.Core) int {
	if c.Rest {
		return len(c.Names) - 1
	}
	return len(c.Names)
}

// variable lays down a CVar's CODE.
func (p *procedure) variable(name string) {
	p.place(name)
	if isLocal(name) && p.isChanging(name) {
		p.lay(api.Instr{Op: api.IUnbox})
	}
}

// set lays down a CSet's CODE.
func (p *procedure) set(c *api.Core) {
	if !isLocal(c.Name) {
		p.term(&c.Parts[0], false)
		p.setGlobal(api.ISetGlobal, c.Name)
		return
	}
	p.place(c.Name)
	p.term(&c.Parts[0], false)
	p.lay(api.Instr{Op: api.ISetBox})
	p.lay(api.Instr{Op: api.IVoid})
}

// setGlobal lays down what gives one of the Globals its value.
func (p *procedure) setGlobal(op int, name string) {
	p.lay(api.Instr{Op: op, A: p.globals.number(name)})
	p.lay(api.Instr{Op: api.IVoid})
}

// choice lays down a CIf's CODE.
func (p *procedure) choice(c *api.Core, tail bool) {
	p.term(&c.Parts[0], false)
	branch := p.lay(api.Instr{Op: api.IBranch})
	depth := p.depth
	p.term(&c.Parts[1], tail)
	var jump int
	if !tail {
		jump = p.lay(api.Instr{Op: api.IJump})
	}
	p.leadHere(branch)
	p.depth = depth // whoever comes here wasn't in the part before
	p.term(&c.Parts[2], tail)
	if !tail {
		p.leadHere(jump)
	}
}

// sequence lays down the CODE of terms one behind the other, one or more: the last one's value stays.
func (p *procedure) sequence(l []api.Core, tail bool) {
	last := len(l) - 1
	for i := range last {
		p.term(&l[i], false)
		p.lay(api.Instr{Op: api.IPop})
	}
	p.term(&l[last], tail)
}

// call lays down a CCall's CODE.
func (p *procedure) call(l []api.Core, tail bool) {
	for i := range l {
		p.term(&l[i], false)
	}
	x := api.Instr{Op: api.ICall, A: len(l) - 1}
	if tail {
		x.Op = api.ITail
	}
	p.lay(x)
}

// let lays down a CLet's CODE.
func (p *procedure) let(c *api.Core, tail bool) {
	for i, name := range c.Names {
		p.term(&c.Parts[i], false)
		if p.isChanging(name) {
			p.lay(api.Instr{Op: api.IBox})
		}
	}
	p.take(c.Names)
	for _, name := range slices.Backward(c.Names) {
		p.lay(api.Instr{Op: api.ISetLocal, A: p.slots[name]})
	}
	p.within(c, tail)
}

// letrec lays down a CLetrec's CODE.
func (p *procedure) letrec(c *api.Core, tail bool) {
	p.take(c.Names)
	for _, name := range c.Names {
		p.lay(api.Instr{Op: api.IFresh})
		p.lay(api.Instr{Op: api.ISetLocal, A: p.slots[name]})
	}
	for i, name := range c.Names {
		p.lay(api.Instr{Op: api.ILocal, A: p.slots[name]})
		p.term(&c.Parts[i], false)
		p.lay(api.Instr{Op: api.ISetBox})
	}
	p.within(c, tail)
}

// within lays down the CODE of the body in which a CLet's or CLetrec's names are
// bound, and takes their slots from them. What nobody asks for any more isn't kept
// in these, unless the whole frame goes in a moment.
func (p *procedure) within(c *api.Core, tail bool) {
	p.term(&c.Parts[len(c.Names)], tail)
	for _, name := range c.Names {
		if !tail {
			p.lay(api.Instr{Op: api.IVoid})
			p.lay(api.Instr{Op: api.ISetLocal, A: p.slots[name]})
		}
		delete(p.slots, name)
	}
}

// handle lays down a CHandle's CODE.
func (p *procedure) handle(c *api.Core, tail bool) {
	p.closure(api.Proc{Name: "body"}, nil, &c.Parts[0])
	p.closure(api.Proc{Name: "return", Params: len(c.Names)}, c.Names, &c.Parts[1])
	for i := range c.Clauses {
		x := &c.Clauses[i]
		names := []string{x.Arg, x.K}
		p.lay(api.Instr{Op: api.IConst, A: p.symbol(x.Label)})
		p.closure(api.Proc{Name: x.Label, Params: len(names)}, names, &x.Body)
	}
	x := api.Instr{Op: api.IHandle, A: len(c.Clauses)}
	if c.Deep {
		x.B += staysDeep
	}
	if tail {
		x.B += inTail
	}
	p.lay(x)
}
