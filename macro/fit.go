package macro

import (
	"slices"

	"distaff/api"
	"distaff/datum"
)

// meaning is what a variable means: one datum; or, if that is nil, many meanings, or none.
type meaning struct {
	one  *api.Datum
	many []meaning
}

// meanings is what variables mean. One that isn't there means none.
type meanings map[string]meaning

// fits asks whether a pattern and a datum do, and tells what the pattern's variables mean then.
func (p *part) fits(d *api.Datum, m meanings) bool {
	switch p.kind {
	case anything:
		return true
	case variable:
		m[p.names[0]] = meaning{one: d}
		return true
	case list:
		return isList(*d) && p.fitsItems(d.Kind, d.Items, m)
	}
	return datum.Same(p.datum, *d)
}

// fitsItems asks whether a list of a pattern fits the Items, with the tail, of a list of that kind.
func (p *part) fitsItems(kind int, items []api.Datum, m meanings) bool {
	n := len(items)
	if kind == api.DDot {
		n--
	}
	ahead := len(p.items)
	switch many := slices.IndexFunc(p.items, part.isMany); {
	case p.tail != nil:
		return ahead <= n && fitEach(p.items, items[:ahead], m) && p.tail.fits(left(kind, items[ahead:]), m)
	case kind == api.DDot:
		return false
	case many < 0:
		return ahead == n && fitEach(p.items, items, m)
	default:
		behind := n - (ahead - many - 1)
		return many <= behind && fitEach(p.items[:many], items[:many], m) && p.items[many].fitsAll(items[many:behind], m) && fitEach(p.items[many+1:], items[behind:], m)
	}
}

// fitEach asks whether as many patterns fit some data one by one.
func fitEach(l []part, items []api.Datum, m meanings) bool {
	for i := range l {
		if !l[i].fits(&items[i], m) {
			return false
		}
	}
	return true
}

// fitsAll asks whether an Item with an ELLIPSIS fits each of some data.
func (p *part) fitsAll(items []api.Datum, m meanings) bool {
	if len(items) == 0 { // where many Items have none, their variables aren't gone through for each
		return true
	}
	for _, name := range p.names {
		m[name] = meaning{many: make([]meaning, len(items))}
	}
	for i := range items {
		each := meanings{}
		if !p.fits(&items[i], each) {
			return false
		}
		for name, x := range each {
			m[name].many[i] = x
		}
	}
	return true
}

// left is what a list of that kind is behind its first Items.
func left(kind int, items []api.Datum) *api.Datum {
	if kind == api.DDot && len(items) == 1 {
		return &items[0]
	}
	return &api.Datum{Kind: kind, Items: items}
}
