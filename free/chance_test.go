package free_test

import (
	"math/rand/v2"
	"slices"
	"strings"
	"testing"

	"distaff/api"
	"distaff/free"
)

// All small terms, and terms made by chance, held against the second layer 9.

// agrees complains, if the two layers answer otherwise.
func agrees(t *testing.T, l []api.Core) {
	t.Helper()
	got, want := free.Unique(l), uniqueByPlaces(l)
	if !slices.EqualFunc(got, want, equal) {
		t.Errorf("%s: %s, not %s", tellAll(l), tellAll(got), tellAll(want))
	}
	for i, c := range l {
		used, changed := free.Free(c), free.Assigned(c)
		if !slices.Equal(used, freeByPlaces(c)) {
			t.Errorf("%s: Free is %q, not %q", told(c), used, freeByPlaces(c))
		}
		if !slices.Equal(changed, assignedByPlaces(c)) {
			t.Errorf("%s: Assigned is %q, not %q", told(c), changed, assignedByPlaces(c))
		}
		if i < len(got) && !slices.Equal(free.Free(got[i]), used) {
			t.Errorf("%s: Free of its Unique one is %q, not %q", told(c), free.Free(got[i]), used)
		}
	}
}

// split is all ways to make a number of some others, each one or more.
func split(n, parts int) [][]int {
	if parts == 0 {
		if n == 0 {
			return [][]int{nil}
		}
		return nil
	}
	var out [][]int
	for first := 1; first <= n-parts+1; first++ {
		for _, rest := range split(n-first, parts-1) {
			out = append(out, append([]int{first}, rest...))
		}
	}
	return out
}

// small is all terms of a size, with some names, known so far.
type small map[int][]api.Core

// products is all lists of terms that are made of so many in all.
func (s small) products(n, parts int) [][]api.Core {
	var out [][]api.Core
	for _, sizes := range split(n, parts) {
		lists := [][]api.Core{nil}
		for _, size := range sizes {
			var longer [][]api.Core
			for _, l := range lists {
				for _, c := range s[size] {
					longer = append(longer, append(slices.Clone(l), c))
				}
			}
			lists = longer
		}
		out = append(out, lists...)
	}
	return out
}

// grow adds the terms of the next size.
func (s small) grow(n int) {
	names := []string{"a", "b"}
	if n == 1 {
		s[1] = []api.Core{{Kind: api.CVar, Name: "a"}, {Kind: api.CVar, Name: "b"}}
		return
	}
	add := func(c api.Core) { s[n] = append(s[n], c) }
	for _, l := range s.products(n-1, 1) {
		add(api.Core{Kind: api.CSet, Name: "a", Parts: l})
		add(api.Core{Kind: api.CSet, Name: "b", Parts: l})
		add(api.Core{Kind: api.CLambda, Names: []string{"a"}, Parts: l})
		add(api.Core{Kind: api.CLambda, Names: []string{"b", "a"}, Rest: true, Parts: l})
		add(api.Core{Kind: api.CPerform, Name: "a", Parts: l})
		add(api.Core{Kind: api.CDefine, Name: "a", Parts: l})
	}
	for _, l := range s.products(n-1, 2) {
		add(api.Core{Kind: api.CCall, Parts: l})
		for _, name := range names {
			add(api.Core{Kind: api.CLet, Names: []string{name}, Parts: l})
			add(api.Core{Kind: api.CLetrec, Names: []string{name}, Parts: l})
			add(api.Core{Kind: api.CHandle, Deep: true, Names: []string{name}, Parts: l})
		}
	}
	for _, l := range s.products(n-1, 3) {
		add(api.Core{Kind: api.CIf, Parts: l})
		add(api.Core{Kind: api.CLet, Names: []string{"b", "a"}, Parts: l})
		add(api.Core{Kind: api.CLetrec, Names: []string{"b", "a"}, Parts: l})
		add(api.Core{Kind: api.CHandle, Names: []string{"b"}, Parts: l[:2], Clauses: []api.Clause{{Label: "a", Arg: "a", K: "k", Body: l[2]}}})
		add(api.Core{Kind: api.CHandle, Names: []string{"k"}, Parts: l[:2], Clauses: []api.Clause{{Label: "b", Arg: "k", K: "b", Body: l[2]}}})
	}
}

func TestSmallTerms(t *testing.T) {
	s := small{}
	for n := 1; n <= 5; n++ {
		s.grow(n)
		for _, c := range s[n] {
			agrees(t, []api.Core{c})
		}
	}
	for _, a := range s[3] {
		agrees(t, []api.Core{a, s[2][0], a, s[2][3]})
	}
}

// chance makes terms of some names.
type chance struct {
	*rand.Rand
	names []string
}

func (r chance) name() string {
	return r.names[r.IntN(len(r.names))]
}

// several is some names, each once.
func (r chance) several(n int) []string {
	var out []string
	for _, i := range r.Perm(len(r.names))[:min(n, len(r.names))] {
		out = append(out, r.names[i])
	}
	return out
}

// terms is so many terms.
func (r chance) terms(n, deep int) []api.Core {
	var out []api.Core
	for range n {
		out = append(out, r.term(deep-1))
	}
	return out
}

// leaf is a term without others in it.
func (r chance) leaf() api.Core {
	switch r.IntN(6) {
	case 0:
		return api.Core{Kind: api.CVoid}
	case 1:
		return api.Core{Kind: api.CConst, Datum: api.Datum{Kind: api.DList, Items: []api.Datum{{Kind: api.DSym, Text: "a"}, {Num: api.Num{I: api.Int{Limbs: []uint32{3, 4}}}}}}}
	}
	return api.Core{Kind: api.CVar, Name: r.name()}
}

// term is a term with at most so many within one another.
func (r chance) term(deep int) api.Core {
	kind := r.IntN(12)
	if deep < 1 {
		return r.leaf()
	}
	c := api.Core{Kind: kind}
	switch kind {
	case api.CSet, api.CPerform:
		c.Name, c.Parts = r.name(), r.terms(1, deep)
	case api.CIf:
		c.Parts = r.terms(3, deep)
	case api.CLambda:
		c.Names, c.Parts = r.several(r.IntN(4)), r.terms(1, deep)
		c.Rest = len(c.Names) > 0 && r.IntN(2) > 0
	case api.CSeq:
		c.Parts = r.terms(2+r.IntN(2), deep)
	case api.CCall:
		c.Parts = r.terms(1+r.IntN(3), deep)
	case api.CLet, api.CLetrec:
		c.Names = r.several(r.IntN(4))
		c.Parts = r.terms(len(c.Names)+1, deep)
	case api.CHandle:
		c.Deep, c.Names, c.Parts = r.IntN(2) > 0, r.several(1), r.terms(2, deep)
		for _, label := range r.several(r.IntN(4)) {
			names := r.several(2)
			c.Clauses = append(c.Clauses, api.Clause{Label: label, Arg: names[0], K: names[1], Body: r.term(deep - 1)})
		}
	default:
		return r.leaf()
	}
	return c
}

func TestTermsByChance(t *testing.T) {
	random := rand.New(rand.NewPCG(9, 1))
	for i := range 6000 {
		r := chance{random, strings.Fields("a b c d car l")[:2+random.IntN(5)]}
		r.names = append(r.names, " t")
		l := r.terms(random.IntN(4), 2+i%4)
		for range random.IntN(2) {
			at := random.IntN(len(l) + 1)
			l = slices.Insert(l, at, api.Core{Kind: api.CDefine, Name: r.name(), Parts: r.terms(1, 4)})
		}
		agrees(t, l)
	}
}

// Unique goes through a list from its beginning on: what stands behind changes nothing.
func TestUniqueOfABeginning(t *testing.T) {
	random := rand.New(rand.NewPCG(9, 2))
	r := chance{random, strings.Fields("a b c")}
	for range 500 {
		l := r.terms(4, 3)
		all := free.Unique(l)
		for n := range l {
			if got := free.Unique(l[:n]); !slices.EqualFunc(got, all[:n], equal) {
				t.Errorf("%s: %s of the first %d", tellAll(l), tellAll(got), n)
			}
		}
	}
}
