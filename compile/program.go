package compile

import (
	"strings"

	"distaff/api"
	"distaff/datum"
	"distaff/free"
)

// program is what all procedures of a program have in common.
type program struct {
	procs    []api.Proc // those that were only begun have no code yet
	consts   listed[api.Datum]
	globals  listed[string]
	changing map[string]struct{}
	prims    []string
	instrs   int // how many were laid down in all
}

// newProgram is a program of Unique terms ahead of its first procedure.
func newProgram(terms []api.Core) *program {
	p := &program{changing: map[string]struct{}{}, prims: strings.Fields(api.Prims)}
	for i := range terms {
		if terms[i].Kind == api.CDefine {
			p.globals.meet(terms[i].Name, terms[i].Name)
		}
		for _, name := range free.Assigned(terms[i]) {
			p.changing[name] = struct{}{}
		}
	}
	return p
}

// constant is the number of the Const that a datum is. Two data are the same, if
// they print alike.
func (p *program) constant(d api.Datum) int {
	text, _ := datum.Print(d)
	return p.consts.meet(text, d)
}

// symbol is the number of the Const that a label is.
func (p *program) symbol(label string) int {
	return p.constant(datum.Sym(label))
}

// isChanging asks whether a name is CHANGING.
func (p *program) isChanging(name string) bool {
	_, is := p.changing[name]
	return is
}

// isTooGreat asks whether more was laid down than a program can have: then it has
// a flaw, whatever is laid down behind that.
func (p *program) isTooGreat() bool {
	return p.instrs > api.MaxInstrs
}

// isLocal asks whether a name is LOCAL.
func isLocal(name string) bool {
	return strings.Contains(name, " ")
}

// listed is things in the order in which they were met first, each once.
type listed[T any] struct {
	items   []T
	numbers map[string]int // by what each of them is called
}

// meet is a thing's number: the next one, if it is met for the first time.
func (l *listed[T]) meet(called string, item T) int {
	if number := l.number(called); number >= 0 {
		return number
	}
	if l.numbers == nil {
		l.numbers = map[string]int{}
	}
	l.numbers[called] = len(l.items)
	l.items = append(l.items, item)
	return len(l.items) - 1
}

// number is the number of what was met; else -1, which is none's.
func (l *listed[T]) number(called string) int {
	number, met := l.numbers[called]
	if !met {
		return -1
	}
	return number
}
