package macro_test

import (
	"slices"
	"testing"

	"distaff/api"
	"distaff/datum"
	"distaff/macro"
)

// Layer 7 once more, written another way: lists are pairs, what variables mean is handed on as a list of bindings, errors are panics. What Expand answers is held against that, for programs that nobody has thought of.

// cell is a pair; the empty list is a nil one, all else an api.Datum.
type cell struct{ first, rest any }

// paired is a datum in pairs.
func paired(d api.Datum) any {
	var tail any = (*cell)(nil)
	items := d.Items
	switch d.Kind {
	case api.DDot:
		tail, items = paired(items[len(items)-1]), items[:len(items)-1]
	case api.DList:
	default:
		return d
	}
	for _, item := range slices.Backward(items) {
		tail = &cell{paired(item), tail}
	}
	return tail
}

// unpaired is the datum of pairs.
func unpaired(x any) api.Datum {
	if d, ok := x.(api.Datum); ok {
		return d
	}
	items, tail := flattened(x)
	l := list()
	for _, item := range items {
		l.Items = append(l.Items, unpaired(item))
	}
	if d, ok := tail.(api.Datum); ok {
		l.Kind, l.Items = api.DDot, append(l.Items, d)
	}
	return l
}

// flattened is the Items of a list, and its tail.
func flattened(x any) (items []any, tail any) {
	for {
		c, ok := x.(*cell)
		if !ok || c == nil {
			return items, x
		}
		items, x = append(items, c.first), c.rest
	}
}

func isPair(x any) bool {
	c, ok := x.(*cell)
	return ok && c != nil
}

// named is a symbol's name; no text, if it is none.
func named(x any) string {
	if d, ok := x.(api.Datum); ok && d.Kind == api.DSym {
		return d.Text
	}
	return ""
}

// binding is what a variable means: many, by how many lists of lists it stands in.
type binding struct {
	name string
	rank int
	one  any
	many []binding
}

// refRule is a RULE as it stands in the program.
type refRule struct {
	pattern, template any
	literals          []string
}

type reference struct {
	macros map[string][]refRule
	steps  int
	nodes  int // that a TEMPLATE has made
}

func fail(e api.Errno) { panic(e) }

func must(ok bool, e api.Errno) {
	if !ok {
		fail(e)
	}
}

// path tells of each symbol of a pattern or a TEMPLATE in how many Items with an ELLIPSIS it stands, and tries each list by a function.
func path(x any, rank int, symbol func(name string, rank int), list func(items []any, tail any, rank int)) {
	if name := named(x); name != "" {
		symbol(name, rank)
	}
	items, tail := flattened(x)
	if _, ok := x.(*cell); !ok {
		return
	}
	list(items, tail, rank)
	for i, item := range items {
		switch {
		case named(item) == "...":
			must(i > 0 && named(items[i-1]) != "...", api.ErrMacro)
		case i+1 < len(items) && named(items[i+1]) == "...":
			path(item, rank+1, symbol, list)
		default:
			path(item, rank, symbol, list)
		}
	}
	if name := named(tail); name != "" {
		must(name != "...", api.ErrMacro)
		symbol(name, rank)
	}
}

// define takes a DEFINITION.
func (r *reference) define(form any) {
	parts, tail := flattened(form)
	must(len(parts) == 3 && !isDatum(tail) && named(parts[1]) != "", api.ErrMacro)
	body, tail := flattened(parts[2])
	must(len(body) >= 3 && !isDatum(tail) && named(body[0]) == "syntax-rules", api.ErrMacro)
	literals, tail := flattened(body[1])
	must(!isDatum(tail), api.ErrMacro)
	var names []string
	for _, x := range literals {
		must(!slices.Contains([]string{"", "...", "_"}, named(x)), api.ErrMacro)
		names = append(names, named(x))
	}
	var rules []refRule
	for _, x := range body[2:] {
		two, tail := flattened(x)
		must(len(two) == 2 && !isDatum(tail) && isPair(two[0]), api.ErrMacro)
		head := two[0].(*cell)
		must(named(head.first) != "", api.ErrMacro)
		rule := refRule{head.rest, two[1], names}
		rule.check()
		rules = append(rules, rule)
	}
	r.macros[named(parts[1])] = rules
}

func isDatum(x any) bool {
	_, ok := x.(api.Datum)
	return ok
}

// check panics, if a RULE can't be one.
func (r refRule) check() {
	ranks := map[string]int{}
	must(named(r.pattern) != "...", api.ErrMacro)
	path(r.pattern, 0, func(name string, rank int) {
		if name != "_" && !slices.Contains(r.literals, name) {
			_, twice := ranks[name]
			must(!twice, api.ErrMacro)
			ranks[name] = rank
		}
	}, func(items []any, tail any, rank int) {
		n := 0
		for _, item := range items {
			if named(item) == "..." {
				n++
			}
		}
		must(n == 0 || n == 1 && !isDatum(tail), api.ErrMacro)
	})
	must(named(r.template) != "...", api.ErrMacro)
	path(r.template, 0, func(name string, rank int) {
		must(rank >= ranks[name], api.ErrMacro)
	}, func(items []any, tail any, rank int) {
		for i := range items {
			if i+1 < len(items) && named(items[i+1]) == "..." {
				greatest := -1
				path(items[i], 0, func(name string, _ int) {
					if own, ok := ranks[name]; ok {
						greatest = max(greatest, own)
					}
				}, func([]any, any, int) {})
				must(greatest >= rank+1, api.ErrMacro)
			}
		}
	})
}

// fit binds the variables of a pattern; nil and false, if it doesn't fit.
func (r refRule) fit(pattern, x any) ([]binding, bool) {
	name := named(pattern)
	switch {
	case name == "_":
		return nil, true
	case slices.Contains(r.literals, name):
		return nil, named(x) == name
	case name != "":
		return []binding{{name: name, one: x}}, true
	case isDatum(pattern):
		d, ok := x.(api.Datum)
		return nil, ok && datum.Same(pattern.(api.Datum), d)
	}
	p := pattern.(*cell)
	if p == nil {
		c, ok := x.(*cell)
		return nil, ok && c == nil
	}
	if next, ok := p.rest.(*cell); ok && next != nil && named(next.first) == "..." {
		return r.fitMany(p.first, next.rest, x)
	}
	if !isPair(x) {
		return nil, false
	}
	first, ok := r.fit(p.first, x.(*cell).first)
	if !ok {
		return nil, false
	}
	rest, ok := r.fit(p.rest, x.(*cell).rest)
	return append(first, rest...), ok
}

// fitMany fits an Item with an ELLIPSIS, and what stands behind that.
func (r refRule) fitMany(item, behind, x any) ([]binding, bool) {
	after, _ := flattened(behind)
	items, tail := flattened(x)
	if isDatum(tail) || len(items) < len(after) {
		return nil, false
	}
	var all []binding
	path(item, 1, func(name string, rank int) {
		if name != "_" && !slices.Contains(r.literals, name) {
			all = append(all, binding{name: name, rank: rank})
		}
	}, func([]any, any, int) {})
	for range len(items) - len(after) {
		each, ok := r.fit(item, x.(*cell).first)
		if !ok {
			return nil, false
		}
		for i := range all {
			k := slices.IndexFunc(each, func(b binding) bool { return b.name == all[i].name })
			all[i].many = append(all[i].many, each[k])
		}
		x = x.(*cell).rest
	}
	rest, ok := r.fit(behind, x)
	return append(all, rest...), ok
}

// size is how many NODES a datum in pairs has.
func size(x any) int {
	if d, ok := x.(api.Datum); ok {
		return datum.Nodes(d)
	}
	items, tail := flattened(x)
	n := 1
	for _, item := range items {
		n += size(item)
	}
	if isDatum(tail) {
		n += size(tail)
	}
	return n
}

func (r *reference) count(n int) {
	r.nodes += n
	must(r.nodes <= 6000, api.ErrSteps)
}

// fill is what a TEMPLATE makes.
func (r *reference) fill(x any, bindings []binding) any {
	if _, ok := x.(*cell); !ok {
		for _, b := range bindings {
			if b.name == named(x) {
				x = b.one
				break
			}
		}
		r.count(size(x))
		return x
	}
	r.count(1)
	items, tail := flattened(x)
	var out []any
	for i, item := range items {
		switch {
		case named(item) == "...":
		case i+1 < len(items) && named(items[i+1]) == "...":
			for _, turn := range turns(item, bindings) {
				out = append(out, r.fill(item, turn))
			}
		default:
			out = append(out, r.fill(item, bindings))
		}
	}
	if isDatum(tail) {
		tail = r.fill(tail, bindings)
		if isDatum(tail) && len(out) == 0 {
			return dot(tail.(api.Datum)) // which isn't RIGHT
		}
	}
	for _, item := range slices.Backward(out) {
		tail = &cell{item, tail}
	}
	return tail
}

// turns is the bindings with which an Item with an ELLIPSIS is made, one behind the other.
func turns(item any, bindings []binding) [][]binding {
	n := -1
	path(item, 0, func(name string, _ int) {
		for _, b := range bindings {
			if b.name == name && b.rank > 0 {
				must(n < 0 || n == len(b.many), api.ErrMatch)
				n = len(b.many)
			}
		}
	}, func([]any, any, int) {})
	var all [][]binding
	for i := range n {
		var turn []binding
		for _, b := range bindings {
			if b.rank > 0 && i < len(b.many) {
				b = b.many[i]
			}
			turn = append(turn, b)
		}
		all = append(all, turn)
	}
	return all
}

// expand EXPANDS a datum in pairs.
func (r *reference) expand(x any, around int) any {
	must(around <= 200, api.ErrSteps)
	if !isPair(x) {
		return x
	}
	use := x.(*cell)
	if rules, ok := r.macros[named(use.first)]; ok {
		for _, rule := range rules {
			if bindings, ok := rule.fit(rule.pattern, use.rest); ok {
				r.steps++
				must(r.steps <= 2000, api.ErrSteps)
				r.nodes = 0
				made := r.fill(rule.template, bindings)
				must(datum.Right(unpaired(made)), api.ErrSteps)
				return r.expand(made, around+1)
			}
		}
		fail(api.ErrMatch)
	}
	items, tail := flattened(x)
	if named(use.first) == "quote" && !isDatum(tail) {
		return x
	}
	for i := range items {
		items[i] = r.expand(items[i], around+1)
	}
	if isDatum(tail) {
		tail = r.expand(tail, around+1)
	}
	for _, item := range slices.Backward(items) {
		tail = &cell{item, tail}
	}
	return tail
}

// refer EXPANDS a program.
func refer(l []api.Datum) (out []api.Datum, fault api.Fault) {
	at := 0
	defer func() {
		if met := recover(); met != nil {
			out, fault = nil, api.Fault{Err: met.(api.Errno), At: at}
		}
	}()
	r := reference{macros: map[string][]refRule{}}
	nodes := 0
	for at = range l {
		x := paired(l[at])
		_, tail := flattened(x)
		if isPair(x) && named(x.(*cell).first) == "define-syntax" && !isDatum(tail) {
			r.define(x)
			continue
		}
		r.steps = 0
		d := unpaired(r.expand(x, 0))
		nodes += datum.Nodes(d)
		must(datum.Right(d) && nodes <= 3000, api.ErrSteps)
		out = append(out, d)
	}
	return out, fault
}

// agree complains, if Expand answers otherwise.
func agree(t *testing.T, l []api.Datum) api.Errno {
	t.Helper()
	want, fault := refer(l)
	if got, e := macro.Expand(l); e != fault || !slices.EqualFunc(got, want, equal) {
		t.Errorf("%s: %s, %v, not %s, %v", told(l), told(got), e, told(want), fault)
	}
	return fault.Err
}
