package free_test

import (
	"cmp"
	"fmt"
	"slices"

	"distaff/api"
)

// A second layer 9, which knows no scopes: it lists all places where a name stands, each with its way
// from the outermost term, and holds each use against the ways of all terms in which its name is bound.

// place is where a name stands that is used or bound.
type place struct {
	name *string
	way  []int   // of a use: to its term; the ways through parts are 0, 1 .., those through clauses -1, -2 ..
	in   [][]int // of what is bound: the ways to the terms within which it is
	set  bool
	rec  bool
}

// listed is the places of all names of some terms, each behind all others that are met first.
func listed(l []api.Core) []*place {
	var out []*place
	var look func(c *api.Core, way []int)
	look = func(c *api.Core, way []int) {
		step := func(n int) []int { return append(slices.Clone(way), n) }
		var in [][]int
		for n := range c.Parts {
			bound := map[int]bool{api.CLambda: true, api.CLet: n == len(c.Parts)-1, api.CLetrec: true, api.CHandle: n == 1}[c.Kind]
			if bound {
				in = append(in, step(n))
			}
		}
		if c.Kind == api.CVar || c.Kind == api.CSet {
			out = append(out, &place{name: &c.Name, way: way, set: c.Kind == api.CSet})
		}
		for n := range c.Names {
			out = append(out, &place{name: &c.Names[n], in: in, rec: c.Kind == api.CLetrec})
		}
		for n := range c.Parts {
			look(&c.Parts[n], step(n))
		}
		for n := range c.Clauses {
			x := &c.Clauses[n]
			out = append(out, &place{name: &x.Arg, in: [][]int{step(-1 - n)}}, &place{name: &x.K, in: [][]int{step(-1 - n)}})
			look(&x.Body, step(-1-n))
		}
	}
	for n := range l {
		look(&l[n], []int{n})
	}
	return out
}

// isWithin asks whether a way goes through the term at the end of another one.
func isWithin(way, outer []int) bool {
	return len(outer) <= len(way) && slices.Equal(outer, way[:len(outer)])
}

// meaning is what a use's name is bound to: of the terms that it lies in and in which that is, the one with the longest way decides.
func meaning(use *place, all []*place) *place {
	type bound struct {
		*place
		length int
	}
	var found []bound
	for _, p := range all {
		for _, in := range p.in {
			if *p.name == *use.name && isWithin(use.way, in) {
				found = append(found, bound{p, len(in)})
			}
		}
	}
	if len(found) == 0 {
		return nil
	}
	return slices.MaxFunc(found, func(a, b bound) int { return cmp.Compare(a.length, b.length) }).place
}

// uniqueByPlaces is Unique.
func uniqueByPlaces(l []api.Core) []api.Core {
	l = allCopied(l)
	all := listed(l)
	numbers, texts := map[*place]int{}, map[*place]string{}
	for _, p := range all {
		if p.way == nil {
			numbers[p] = len(numbers) + 1
			texts[p] = fmt.Sprintf("%s %d", *p.name, numbers[p])
		}
	}
	for _, p := range all {
		if p.way != nil {
			texts[p] = *p.name
			if m := meaning(p, all); m != nil {
				texts[p] = texts[m]
			}
		}
	}
	for p, text := range texts {
		*p.name = text
	}
	return l
}

// namesByPlaces is the names of those places for which a question is answered with yes.
func namesByPlaces(c api.Core, asked func(p *place, all []*place) bool) []string {
	var out []string
	all := listed([]api.Core{copied(c)})
	for _, p := range all {
		if asked(p, all) && !slices.Contains(out, *p.name) {
			out = append(out, *p.name)
		}
	}
	return out
}

// freeByPlaces is Free.
func freeByPlaces(c api.Core) []string {
	return namesByPlaces(c, func(p *place, all []*place) bool { return p.way != nil && meaning(p, all) == nil })
}

// assignedByPlaces is Assigned.
func assignedByPlaces(c api.Core) []string {
	return namesByPlaces(c, func(p *place, all []*place) bool { return p.set || p.rec })
}
