package macro

import (
	"slices"

	"distaff/api"
	"distaff/datum"
)

// mostMade is how many NODES a TEMPLATE may make.
const mostMade = 6000

// making is how far a TEMPLATE is made.
type making struct {
	means meanings
	turns []int // for each Item with an ELLIPSIS around, the outermost one first: which of the many is made
	nodes int
}

// made is what a TEMPLATE, or a part of one, makes.
func (m *making) made(p *part) (api.Datum, api.Errno) {
	if p.kind == list {
		return m.list(p)
	}
	d := p.datum
	if p.kind == variable {
		d = *m.meant(p.names[0]).one
	}
	return d, m.count(datum.Nodes(d))
}

// list is what a list makes, with or without a tail.
func (m *making) list(p *part) (api.Datum, api.Errno) {
	e := m.count(1)
	var items []api.Datum
	for i := range p.items {
		if e == api.OK {
			items, e = m.add(items, &p.items[i])
		}
	}
	if e != api.OK || p.tail == nil {
		return api.Datum{Kind: api.DList, Items: items}, e
	}
	tail, e := m.made(p.tail)
	return joined(items, tail), e
}

// add adds what an Item makes, with the ELLIPSIS that stands behind it.
func (m *making) add(items []api.Datum, p *part) ([]api.Datum, api.Errno) {
	if !p.many {
		d, e := m.made(p)
		return append(items, d), e
	}
	n, e := m.times(p)
	turn := len(m.turns)
	m.turns = append(m.turns, 0)
	for i := 0; i < n && e == api.OK; i++ {
		var d api.Datum
		m.turns[turn] = i
		d, e = m.made(p)
		items = append(items, d)
	}
	m.turns = m.turns[:turn]
	return items, e
}

// times is how often an Item with an ELLIPSIS is made.
func (m *making) times(p *part) (int, api.Errno) {
	n := len(m.meant(p.by[0]).many)
	for _, name := range p.by {
		if len(m.meant(name).many) != n {
			return 0, api.ErrMatch
		}
	}
	return n, api.OK
}

// meant is what a variable means in its turn: where it means many, the outermost ELLIPSES choose.
func (m *making) meant(name string) meaning {
	x := m.means[name]
	for _, i := range m.turns {
		if x.one != nil {
			break
		}
		x = x.many[i]
	}
	return x
}

// count counts NODES that were made.
func (m *making) count(nodes int) api.Errno {
	m.nodes += nodes
	if m.nodes > mostMade {
		return api.ErrSteps
	}
	return api.OK
}

// joined is a list of Items and a tail. Without an Item, a tail that is no list stays alone in a list: that isn't RIGHT.
func joined(items []api.Datum, tail api.Datum) api.Datum {
	if isList(tail) {
		return api.Datum{Kind: tail.Kind, Items: slices.Concat(items, tail.Items)}
	}
	return api.Datum{Kind: api.DDot, Items: append(items, tail)}
}
