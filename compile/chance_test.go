package compile_test

import (
	"math/rand/v2"
	"reflect"
	"slices"
	"strconv"
	"strings"
	"testing"

	"distaff/api"
	"distaff/compile"
	"distaff/datum"
	"distaff/verify"
)

// P12.4; and all small terms, and terms made by chance, held against the second layer 12.

// agrees complains, if the two layers answer otherwise, or if what comes out has a flaw; and answers it.
func agrees(t *testing.T, l []api.Core) (api.Code, api.Errno) {
	t.Helper()
	got, e := compile.Make(l)
	want, wantE := second(l)
	if e != wantE || !reflect.DeepEqual(got, want) {
		t.Fatalf("%+v:\n%d %s\nnot\n%d %s", l, e, told(got), wantE, told(want))
	}
	flaw := verify.Check(got)
	if e == api.OK && flaw != (api.Flaw{}) {
		t.Fatalf("%+v: %s", flaw, told(got))
	}
	for n, p := range got.Procs {
		if at := slices.Index(verify.Depths(got, n), -1); at >= 0 {
			t.Fatalf("%d of procedure %d %s is never come to: %s", at, n, p.Name, told(got))
		}
	}
	return got, e
}

// split is all ways to make a number of some others, each one or more.
func split(n, parts int) [][]int {
	if parts == 0 {
		if n == 0 {
			return [][]int{nil}
		}
		return nil
	}
	var out [][]int
	for first := 1; first <= n-parts+1; first++ {
		for _, rest := range split(n-first, parts-1) {
			out = append(out, append([]int{first}, rest...))
		}
	}
	return out
}

// small is all terms of a size, with two names, known so far.
type small map[int][]api.Core

// products is all lists of terms that are made of so many in all.
func (s small) products(n, parts int) [][]api.Core {
	var out [][]api.Core
	for _, sizes := range split(n, parts) {
		lists := [][]api.Core{nil}
		for _, size := range sizes {
			var longer [][]api.Core
			for _, l := range lists {
				for _, c := range s[size] {
					longer = append(longer, append(slices.Clone(l), c))
				}
			}
			lists = longer
		}
		out = append(out, lists...)
	}
	return out
}

// grow adds the terms of the next size.
func (s small) grow(n int) {
	add := func(c api.Core) { s[n] = append(s[n], c) }
	if n == 1 {
		add(api.Core{Kind: api.CVar, Name: "a"})
		add(api.Core{Kind: api.CVar, Name: "b"})
		add(api.Core{Kind: api.CVoid})
		return
	}
	for _, l := range s.products(n-1, 1) {
		add(api.Core{Kind: api.CSet, Name: "a", Parts: l})
		add(api.Core{Kind: api.CLambda, Names: []string{"a"}, Parts: l})
		add(api.Core{Kind: api.CLambda, Names: []string{"b", "a"}, Rest: true, Parts: l})
		add(api.Core{Kind: api.CPerform, Name: "a", Parts: l})
	}
	for _, l := range s.products(n-1, 2) {
		add(api.Core{Kind: api.CCall, Parts: l})
		add(api.Core{Kind: api.CSeq, Parts: l})
		for _, name := range []string{"a", "b"} {
			add(api.Core{Kind: api.CLet, Names: []string{name}, Parts: l})
			add(api.Core{Kind: api.CLetrec, Names: []string{name}, Parts: l})
		}
		add(api.Core{Kind: api.CHandle, Deep: true, Names: []string{"a"}, Parts: l})
	}
	for _, l := range s.products(n-1, 3) {
		add(api.Core{Kind: api.CIf, Parts: l})
		add(api.Core{Kind: api.CLet, Names: []string{"b", "a"}, Parts: l})
		add(api.Core{Kind: api.CLetrec, Names: []string{"b", "a"}, Parts: l})
		add(api.Core{Kind: api.CHandle, Names: []string{"b"}, Parts: l[:2], Clauses: []api.Clause{{Label: "a", Arg: "a", K: "k", Body: l[2]}}})
	}
}

func TestSmallTerms(t *testing.T) {
	t.Parallel()
	s := small{}
	define := func(name string) api.Core {
		return api.Core{Kind: api.CDefine, Name: name, Parts: []api.Core{{Kind: api.CVoid}}}
	}
	lambda := func(c api.Core, names ...string) api.Core {
		return api.Core{Kind: api.CLambda, Names: names, Parts: []api.Core{c}}
	}
	for n := 1; n <= 5; n++ {
		s.grow(n)
		for _, c := range s[n] {
			agrees(t, []api.Core{lambda(c, "a", "b")})
			agrees(t, []api.Core{lambda(lambda(c, "b"), "a")})
			agrees(t, []api.Core{define("b"), c, define("a")})
			if n < 4 {
				agrees(t, []api.Core{lambda(api.Core{Kind: api.CSeq, Parts: []api.Core{c, c}}, "a", "b")})
				agrees(t, []api.Core{lambda(lambda(c), "a", "b"), lambda(c, "b"), define("a")})
			}
		}
	}
}

// chance makes programs of terms that layer 8 could have made.
type chance struct {
	*rand.Rand
	globals []string
	labels  []string
	prims   []string
	effects bool
}

// pick is one of some texts.
func (r chance) pick(l []string) string {
	return l[r.IntN(len(l))]
}

// several is some of these names, each once.
func (r chance) several(n int) []string {
	names := strings.Fields("a b c d e f")
	var out []string
	for _, i := range r.Perm(len(names))[:n] {
		out = append(out, names[i])
	}
	return out
}

// terms is so many terms where some names are bound.
func (r chance) terms(n, deep int, bound []string) []api.Core {
	var out []api.Core
	for range n {
		out = append(out, r.term(deep-1, bound))
	}
	return out
}

// constant is a constant.
func (r chance) constant() api.Datum {
	switch r.IntN(5) {
	case 0:
		return api.Datum{Kind: api.DBool, N: r.IntN(2)}
	case 1:
		return datum.Sym(r.pick(r.labels))
	case 2:
		return datum.List(datum.Num(r.IntN(2)), datum.Sym(r.pick(r.labels)))
	}
	return datum.Num(r.IntN(4))
}

// leaf is a term without others in it.
func (r chance) leaf(bound []string) api.Core {
	n := r.IntN(9)
	switch {
	case n == 0:
		return api.Core{Kind: api.CVoid}
	case n == 1:
		return api.Core{Kind: api.CVar, Name: r.pick(r.prims)}
	case n == 2 && len(r.globals) > 0:
		return api.Core{Kind: api.CVar, Name: r.pick(r.globals)}
	case n > 4 && len(bound) > 0:
		return api.Core{Kind: api.CVar, Name: r.pick(bound)}
	}
	return api.Core{Kind: api.CConst, Datum: r.constant()}
}

// term is a term with at most so many within one another.
func (r chance) term(deep int, bound []string) api.Core {
	c := api.Core{Kind: r.IntN(11)}
	within := func(names []string) []string { return slices.Concat(bound, names) }
	switch {
	case deep < 1:
		return r.leaf(bound)
	case c.Kind == api.CSet && len(bound)+len(r.globals) > 0:
		c.Name, c.Parts = r.pick(slices.Concat(bound, r.globals)), r.terms(1, deep, bound)
	case c.Kind == api.CIf:
		c.Parts = r.terms(3, deep, bound)
	case c.Kind == api.CLambda:
		c.Names = r.several(r.IntN(4))
		c.Rest = len(c.Names) > 0 && r.IntN(3) == 0
		c.Parts = r.terms(1, deep, within(c.Names))
	case c.Kind == api.CSeq:
		c.Parts = r.terms(2+r.IntN(2), deep, bound)
	case c.Kind == api.CCall:
		c.Parts = r.terms(1+r.IntN(3), deep, bound)
	case c.Kind == api.CLet:
		c.Names = r.several(r.IntN(4))
		c.Parts = append(r.terms(len(c.Names), deep, bound), r.term(deep-1, within(c.Names)))
	case c.Kind == api.CLetrec:
		c.Names = r.several(r.IntN(4))
		c.Parts = r.terms(len(c.Names)+1, deep, within(c.Names))
	case c.Kind == api.CPerform && r.effects:
		c.Name, c.Parts = r.pick(r.labels), r.terms(1, deep, bound)
	case c.Kind == api.CHandle && r.effects:
		c.Deep, c.Names = r.IntN(2) > 0, r.several(1)
		c.Parts = append(r.terms(1, deep, bound), r.term(deep-1, within(c.Names)))
		for _, i := range r.Perm(len(r.labels))[:r.IntN(len(r.labels))] {
			names := r.several(2)
			c.Clauses = append(c.Clauses, api.Clause{Label: r.labels[i], Arg: names[0], K: names[1], Body: r.term(deep-1, within(names))})
		}
	default:
		return r.leaf(bound)
	}
	return c
}

// program is a program of so many terms and some definitions between them.
func (r chance) program(n, deep int) []api.Core {
	r.globals = strings.Fields("a g h")[:r.IntN(4)]
	l := r.terms(n, deep, nil)
	for _, name := range append(r.globals, r.globals[:r.IntN(len(r.globals)+1)]...) {
		at := r.IntN(len(l) + 1)
		l = slices.Insert(l, at, api.Core{Kind: api.CDefine, Name: name, Parts: r.terms(1, deep, nil)})
	}
	return l
}

func TestTermsByChance(t *testing.T) {
	t.Parallel()
	r := chance{Rand: rand.New(rand.NewPCG(12, 1)), labels: strings.Fields("a b ask"), prims: strings.Fields("car + void"), effects: true}
	ops := map[int]int{}
	for i := range 4000 {
		c, e := agrees(t, r.program(r.IntN(4), 1+i%6))
		if e != api.OK {
			t.Fatal(e)
		}
		for _, p := range c.Procs {
			for _, x := range p.Code {
				ops[x.Op]++
			}
		}
	}
	for op, name := range called() {
		if ops[op] < 1000 {
			t.Errorf("%s %d times", name, ops[op])
		}
	}
}

// Programs at whose limits chance comes to lie.
func TestGreatTermsByChance(t *testing.T) {
	r := chance{Rand: rand.New(rand.NewPCG(12, 2)), labels: strings.Fields("a b ask"), prims: strings.Fields("car + void"), effects: true}
	met := map[api.Errno]int{}
	for range 200 {
		var names []string
		for _, i := range r.Perm(100 + r.IntN(100)) {
			names = append(names, "n"+strconv.Itoa(i))
		}
		l := r.terms(1, 5, names)
		for len(names) > 0 {
			n := 1 + r.IntN(len(names))
			kind := []int{api.CLambda, api.CLet, api.CLetrec, api.CLet}[r.IntN(4)]
			c := api.Core{Kind: kind, Names: names[:n]}
			if kind != api.CLambda {
				c.Parts = r.terms(n, 2, nil)
			}
			c.Parts = append(c.Parts, l...)
			l, names = []api.Core{c}, names[n:]
		}
		_, e := agrees(t, l)
		met[e]++
	}
	if met[api.OK] < 20 || met[api.ErrFrame] < 20 {
		t.Error(met)
	}
}
