package compile_test

import (
	"slices"
	"strings"

	"distaff/api"
	"distaff/code"
	"distaff/datum"
	"distaff/free"
	"distaff/verify"
)

// A second layer 12. It writes each procedure as lines that name all they speak of, with marks
// for what is no instruction; what numbers those are is found out behind that, kind by kind.

// line is an instruction, or a mark: take and leave (of a slot, by the name that has it), label (a place to jump to), begin (of a procedure).
type line struct {
	what  string // as in the table of names, or a mark
	name  string // of what it speaks: a name, a label; a primitive's stands for itself
	n, b  int
	datum api.Datum
	proc  *unit
}

// unit is a procedure.
type unit struct {
	api.Proc
	names  []string
	frees  []string
	lines  []line
	number int
}

// writer writes the lines of one procedure.
type writer struct {
	*unit
	bound    map[string]bool
	labels   *int
	changing []string
	globals  []string
}

func (w *writer) put(what string, x line) {
	x.what = what
	w.lines = append(w.lines, x)
}

func (w *writer) changes(name string) bool {
	return slices.Contains(w.changing, name)
}

// place is a PLACE.
func (w *writer) place(name string) {
	switch blank := strings.IndexByte(name, ' ') >= 0; {
	case w.bound[name]:
		w.put("local", line{name: name})
	case blank:
		w.put("free", line{n: slices.Index(w.frees, name)})
	case slices.Contains(w.globals, name):
		w.put("global", line{n: slices.Index(w.globals, name)})
	default:
		w.put("prim", line{n: slices.Index(strings.Split(api.Prims, " "), name)})
	}
}

// procedure is one of a term as CLambdas are, under another name.
func (w *writer) procedure(called string, names []string, rest bool, body api.Core) *unit {
	u := &unit{names: names}
	u.Name, u.Rest, u.Params = called, rest, len(names)
	if rest {
		u.Params--
	}
	for _, name := range free.Free(api.Core{Kind: api.CLambda, Names: names, Rest: rest, Parts: []api.Core{body}}) {
		if strings.IndexByte(name, ' ') >= 0 {
			u.frees = append(u.frees, name)
		}
	}
	inner := writer{unit: u, bound: map[string]bool{}, labels: w.labels, changing: w.changing, globals: w.globals}
	inner.enter(names)
	for _, name := range names {
		if w.changes(name) {
			inner.put("local", line{name: name})
			inner.put("box", line{})
			inner.put("setlocal", line{name: name})
		}
	}
	inner.code(body, true)
	return u
}

// closure is a procedure as a value.
func (w *writer) closure(called string, names []string, rest bool, body api.Core) {
	u := w.procedure(called, names, rest, body)
	w.put("begin", line{proc: u})
	for _, name := range u.frees {
		w.place(name)
	}
	w.put("closure", line{proc: u})
}

func (w *writer) enter(names []string) {
	for _, name := range names {
		w.bound[name] = true
		w.put("take", line{name: name})
	}
}

func (w *writer) leave(names []string, tail bool) {
	for _, name := range names {
		if !tail {
			w.put("void", line{})
			w.put("setlocal", line{name: name})
		}
	}
	for _, name := range names {
		w.put("leave", line{name: name})
	}
}

func symbol(name string) api.Datum {
	return api.Datum{Kind: api.DSym, Text: name}
}

// code is a term's CODE.
func (w *writer) code(c api.Core, tail bool) {
	last := len(c.Parts) - 1
	switch c.Kind {
	case api.CIf:
		other, end := *w.labels, *w.labels+1
		*w.labels += 2
		w.code(c.Parts[0], false)
		w.put("branch", line{n: other})
		w.code(c.Parts[1], tail)
		if !tail {
			w.put("jump", line{n: end})
		}
		w.put("label", line{n: other})
		w.code(c.Parts[2], tail)
		w.put("label", line{n: end})
		return
	case api.CSeq:
		for i, part := range c.Parts {
			w.code(part, tail && i == last)
			if i != last {
				w.put("pop", line{})
			}
		}
		return
	case api.CCall:
		for _, part := range c.Parts {
			w.code(part, false)
		}
		w.put(map[bool]string{false: "call", true: "tail"}[tail], line{n: last})
		return
	case api.CLet:
		for i, name := range c.Names {
			if w.code(c.Parts[i], false); w.changes(name) {
				w.put("box", line{})
			}
		}
		w.enter(c.Names)
		for i := len(c.Names) - 1; i >= 0; i-- {
			w.put("setlocal", line{name: c.Names[i]})
		}
		w.code(c.Parts[last], tail)
		w.leave(c.Names, tail)
		return
	case api.CLetrec:
		w.enter(c.Names)
		for _, name := range c.Names {
			w.put("fresh", line{})
			w.put("setlocal", line{name: name})
		}
		for i, name := range c.Names {
			w.put("local", line{name: name})
			w.code(c.Parts[i], false)
			w.put("setbox", line{})
		}
		w.code(c.Parts[last], tail)
		w.leave(c.Names, tail)
		return
	case api.CConst:
		w.put("const", line{datum: c.Datum})
	case api.CVoid:
		w.put("void", line{})
	case api.CVar:
		if w.place(c.Name); strings.Contains(c.Name, " ") && w.changes(c.Name) {
			w.put("unbox", line{})
		}
	case api.CSet, api.CDefine:
		local := c.Kind == api.CSet && strings.Contains(c.Name, " ")
		if local {
			w.place(c.Name)
		}
		w.code(c.Parts[0], false)
		w.put(map[bool]string{true: "setbox", false: map[int]string{api.CSet: "setglobal", api.CDefine: "defglobal"}[c.Kind]}[local], line{n: max(0, slices.Index(w.globals, c.Name))})
		w.put("void", line{})
	case api.CLambda:
		w.closure("lambda", c.Names, c.Rest, c.Parts[0])
	case api.CPerform:
		w.code(c.Parts[0], false)
		w.put("perform", line{datum: symbol(c.Name)})
	case api.CHandle:
		w.closure("body", nil, false, c.Parts[0])
		w.closure("return", c.Names, false, c.Parts[1])
		for _, x := range c.Clauses {
			w.put("const", line{datum: symbol(x.Label)})
			w.closure(x.Label, []string{x.Arg, x.K}, false, x.Body)
		}
		b := 0
		for bit, is := range []bool{c.Deep, tail} {
			if is {
				b |= 1 << bit
			}
		}
		w.put("handle", line{n: len(c.Clauses), b: b})
	}
	if tail {
		w.put("return", line{})
	}
}

// linked is a program of units that come to be numbered.
type linked struct {
	api.Code
	units []*unit
}

// number numbers a unit, all that are begun in it, and the Consts.
func (p *linked) number(u *unit) {
	u.number = len(p.units)
	p.units = append(p.units, u)
	for i, x := range u.lines {
		switch x.what {
		case "begin":
			p.number(x.proc)
		case "const", "perform":
			n := slices.IndexFunc(p.Consts, func(d api.Datum) bool { return datum.Same(d, x.datum) })
			if n < 0 {
				n = len(p.Consts)
				p.Consts = append(p.Consts, x.datum)
			}
			u.lines[i].n = n
		}
	}
}

// slots finds out which slots a unit's names have.
func (u *unit) slots() {
	taken, slots := [1000]bool{}, map[string]int{}
	for i, x := range u.lines {
		switch x.what {
		case "take":
			slots[x.name] = slices.Index(taken[:], false)
			taken[slots[x.name]] = true
			u.Slots = max(u.Slots, slots[x.name]+1)
		case "leave":
			taken[slots[x.name]] = false
		case "local", "setlocal":
			u.lines[i].n = slots[x.name]
		}
	}
}

// instrs makes a unit's lines instructions.
func (u *unit) instrs() {
	places, labels := 0, map[int]int{}
	for _, x := range u.lines {
		switch x.what {
		case "label":
			labels[x.n] = places
		case "take", "leave", "begin":
		default:
			places++
		}
	}
	for _, x := range u.lines {
		op := slices.IndexFunc(called(), func(s string) bool { return strings.TrimSuffix(s, "-A") == x.what })
		switch x.what {
		case "jump", "branch":
			x.n = labels[x.n]
		case "closure":
			x.n = x.proc.number
		}
		if op >= 0 {
			u.Code = append(u.Code, api.Instr{Op: op, A: x.n, B: x.b})
		}
	}
}

// greatest goes all ways through a procedure, and answers the greatest DEPTH behind an instruction.
func greatest(c api.Code, p api.Proc) int {
	most, seen := 0, map[int]bool{}
	type state struct{ at, depth int }
	open := []state{{}}
	for len(open) > 0 {
		s := open[len(open)-1]
		open = open[:len(open)-1]
		if seen[s.at] || s.at >= len(p.Code) {
			continue
		}
		seen[s.at] = true
		x := p.Code[s.at]
		takes, puts := code.Effect(x, c)
		depth := s.depth - takes + puts
		most = max(most, depth)
		switch called()[x.Op] {
		case "return", "tail-A":
		case "jump-A":
			open = append(open, state{x.A, depth})
		case "branch-A":
			open = append(open, state{x.A, depth}, state{s.at + 1, depth})
		default:
			open = append(open, state{s.at + 1, depth})
		}
	}
	return most
}

// second is Make.
func second(l []api.Core) (api.Code, api.Errno) {
	l = free.Unique(l)
	w := writer{labels: new(int)}
	for _, c := range l {
		w.changing = append(w.changing, free.Assigned(c)...)
		if c.Kind == api.CDefine && !slices.Contains(w.globals, c.Name) {
			w.globals = append(w.globals, c.Name)
		}
	}
	// main is as if all terms were the body of one.
	all := api.Core{Kind: api.CSeq, Parts: l}
	if len(l) == 0 {
		all = api.Core{Kind: api.CVoid}
	}
	var p linked
	p.Globals = w.globals
	p.number(w.procedure("main", nil, false, all))
	for _, u := range p.units {
		u.slots()
		u.instrs()
		u.Free = len(u.frees)
		p.Procs = append(p.Procs, u.Proc)
	}
	for n := range p.Procs {
		p.Procs[n].Depth = greatest(p.Code, p.Procs[n])
	}
	if verify.Check(p.Code) != (api.Flaw{}) {
		return api.Code{}, api.ErrFrame
	}
	return p.Code, api.OK
}
