package free_test

import (
	"math"
	"math/rand/v2"
	"slices"
	"strings"
	"testing"
	"unsafe"

	"distaff/api"
	"distaff/free"
)

// P1, P2, and what holds for all layers.

// programs is programs of many kinds.
func programs() []string {
	l := []string{
		"", "1", "4294967296 18446744073709551616 2.5 \"a\" #\\a #t", "'(1 4294967296 (a . b) #(c)) #(1 (4294967297))", "car", "(car 4294967296)", "(define x '(4294967296)) x (set! x x)", "(define (f x . y) (set! x y) (f x))", "(lambda x x)", "(lambda (x . y) (define (z) x) (define w 4294967296) (z w))",
		"(let ((x '(4294967296)) (y 2)) x y)", "(let f ((x 1) (y '(4294967296))) (f x y))", "(let* ((x 1) (x '#(4294967296))) x)", "(letrec ((x 4294967296) (y x)) y)", "(let () 1)", "(and 1 2 3) (or 1 2 3)", "(cond (1) (2 => car) (3 4 5) (else 6 7))", "(case 4294967296 ((4294967296 a (b)) 1) ((4294967297) 2 3) (else 4 5))", "(do ((x 1 (car x)) (y 4294967296)) ((car x) 1 2) 3 4)",
		"(handle 1) (handle (car 1) (return (x) x 1) (l (x k) x) (m (y k) (define z y) z)) (handle-shallow 1 (l (x k) 4294967296))", "(perform l) (perform l '(4294967296))", "(lambda (x y z) (set! z 1) (set! y 2) (letrec ((v x) (w x)) (set! v '(4294967296 #(4294967296) \"a\"))))", "(if 1 2) (if 1 2 3)",
	}
	return append(l, strings.Join(l, " "))
}

// roomyData is the same data in other memory, with spare room behind each list.
func roomyData(l []api.Datum) []api.Datum {
	l = append(slices.Clone(l), api.Datum{Kind: 9, N: 3735928559}, api.Datum{Text: "spare"})[:len(l)]
	for i := range l {
		limbs := l[i].Num.I.Limbs
		l[i].Num.I.Limbs = slices.Concat(limbs, []uint32{3735928559, 0, math.MaxUint32})[:len(limbs)]
		l[i].Items = roomyData(l[i].Items)
	}
	return l
}

// roomy is the same of terms.
func roomy(l []api.Core) []api.Core {
	l = append(slices.Clone(l), api.Core{Kind: 99, Name: "spare"}, api.Core{Kind: api.CVar, Name: "spare"})[:len(l)]
	for i := range l {
		c := &l[i]
		c.Datum = roomyData([]api.Datum{c.Datum})[0]
		c.Names = append(slices.Clone(c.Names), "spare", "room")[:len(c.Names)]
		c.Parts = roomy(c.Parts)
		c.Clauses = append(slices.Clone(c.Clauses), api.Clause{Label: "spare"}, api.Clause{Arg: "room"})[:len(c.Clauses)]
		for k := range c.Clauses {
			c.Clauses[k].Body = roomy([]api.Core{c.Clauses[k].Body})[0]
		}
	}
	return l
}

// wholeData is data with the spare room of their lists as part of them, in other memory.
func wholeData(l []api.Datum) []api.Datum {
	l = slices.Clone(l[:cap(l)])
	for i := range l {
		l[i].Num.I.Limbs = slices.Clone(l[i].Num.I.Limbs[:cap(l[i].Num.I.Limbs)])
		l[i].Items = wholeData(l[i].Items)
	}
	return l
}

// whole is the same of terms.
func whole(l []api.Core) []api.Core {
	l = slices.Clone(l[:cap(l)])
	for i := range l {
		c := &l[i]
		c.Datum = wholeData([]api.Datum{c.Datum})[0]
		c.Names = slices.Clone(c.Names[:cap(c.Names)])
		c.Parts = whole(c.Parts)
		c.Clauses = slices.Clone(c.Clauses[:cap(c.Clauses)])
		for k := range c.Clauses {
			c.Clauses[k].Body = whole([]api.Core{c.Clauses[k].Body})[0]
		}
	}
	return l
}

// spoilData writes over all memory of data, spare room included.
func spoilData(l []api.Datum) {
	l = l[:cap(l)]
	for i := range l {
		limbs := l[i].Num.I.Limbs[:cap(l[i].Num.I.Limbs)]
		for k := range limbs {
			limbs[k] = ^limbs[k]
		}
		spoilData(l[i].Items)
		l[i] = api.Datum{Kind: 9, N: -1, Text: "spoilt"}
	}
}

// spoilNames is the same of names.
func spoilNames(l []string) {
	l = l[:cap(l)]
	for i := range l {
		l[i] = "spoilt"
	}
}

// spoil is the same of terms.
func spoil(l []api.Core) {
	l = l[:cap(l)]
	for i := range l {
		spoilData([]api.Datum{l[i].Datum})
		spoilNames(l[i].Names)
		spoil(l[i].Parts)
		clauses := l[i].Clauses[:cap(l[i].Clauses)]
		for k := range clauses {
			spoil([]api.Core{clauses[k].Body})
			clauses[k] = api.Clause{Label: "spoilt"}
		}
		l[i] = api.Core{Kind: 99, Name: "spoilt"}
	}
}

// answers is what all calls answer of some terms.
type answers struct {
	unique   []api.Core
	free     [][]string
	assigned [][]string
}

func asked(l []api.Core) answers {
	a := answers{unique: free.Unique(l)}
	for _, c := range l {
		a.free = append(a.free, free.Free(c))
		a.assigned = append(a.assigned, free.Assigned(c))
	}
	return a
}

// whole is answers with all spare room as part of them, in other memory.
func (a answers) whole() answers {
	b := answers{unique: whole(a.unique)}
	for i := range a.free {
		b.free = append(b.free, slices.Clone(a.free[i][:cap(a.free[i])]))
		b.assigned = append(b.assigned, slices.Clone(a.assigned[i][:cap(a.assigned[i])]))
	}
	return b
}

func (a answers) spoil() {
	spoil(a.unique)
	for i := range a.free {
		spoilNames(a.free[i])
		spoilNames(a.assigned[i])
	}
}

func (a answers) equal(b answers) bool {
	return slices.EqualFunc(a.unique, b.unique, equal) && slices.EqualFunc(a.free, b.free, slices.Equal) && slices.EqualFunc(a.assigned, b.assigned, slices.Equal)
}

func TestArgumentsStay(t *testing.T) {
	for _, text := range programs() {
		l := roomy(made(t, text))
		want := whole(l)
		asked(l)
		if !slices.EqualFunc(whole(l), want, equal) {
			t.Errorf("%s is changed", short(text))
		}
	}
}

func TestArgumentsAreNotKept(t *testing.T) {
	for _, text := range programs() {
		l := roomy(made(t, text))
		got := asked(l)
		want := got.whole()
		if spoil(l); !got.whole().equal(want) {
			t.Errorf("%s is kept", short(text))
		}
		if !asked(made(t, text)).equal(got) {
			t.Errorf("%s: another answer later", short(text))
		}
	}
}

// P2: what is done with an answer isn't seen in what was handed in, nor in another answer.
func TestAnswersAreApart(t *testing.T) {
	for _, text := range programs() {
		l := roomy(made(t, text))
		given := whole(l)
		got, second := asked(l), asked(l)
		want := second.whole()
		if got.spoil(); !slices.EqualFunc(whole(l), given, equal) {
			t.Errorf("%s: an answer shares memory with what was handed in", short(text))
		}
		if !second.whole().equal(want) {
			t.Errorf("%s: two answers share memory", short(text))
		}
		if !asked(l).equal(second) {
			t.Errorf("%s: another answer later", short(text))
		}
	}
}

// lists is all lists of some terms, each with its spare room.
type lists struct {
	terms   [][]api.Core
	clauses [][]api.Clause
	names   [][]string
	items   [][]api.Datum
	limbs   [][]uint32
}

func (x *lists) gather(l []api.Core) {
	x.terms = append(x.terms, l[:cap(l)])
	for _, c := range l {
		x.names = append(x.names, c.Names[:cap(c.Names)])
		x.gatherData([]api.Datum{c.Datum})
		x.gather(c.Parts)
		x.clauses = append(x.clauses, c.Clauses[:cap(c.Clauses)])
		for _, clause := range c.Clauses {
			x.gather([]api.Core{clause.Body})
		}
	}
}

func (x *lists) gatherData(l []api.Datum) {
	x.items = append(x.items, l[:cap(l)])
	for _, d := range l {
		x.limbs = append(x.limbs, d.Num.I.Limbs[:cap(d.Num.I.Limbs)])
		x.gatherData(d.Items)
	}
}

// apart writes into each of some lists what no other has, and asks whether all of it is there still.
func apart[T any](l [][]T, mark func(i int) T, is func(x T, i int) bool) bool {
	for i := range l {
		for k := range l[i] {
			l[i][k] = mark(i)
		}
	}
	for i := range l {
		if slices.ContainsFunc(l[i], func(x T) bool { return !is(x, i) }) {
			return false
		}
	}
	return true
}

func TestListsOfAnAnswerAreApart(t *testing.T) {
	for _, text := range programs() {
		var x lists
		x.gather(free.Unique(made(t, text)))
		texts := func(i int) string { return strings.Repeat("x", i%100) + strings.Repeat("y", i/100) }
		ok := apart(x.limbs, func(i int) uint32 { return uint32(i) }, func(n uint32, i int) bool { return n == uint32(i) })
		ok = ok && apart(x.items, func(i int) api.Datum { return api.Datum{N: i} }, func(d api.Datum, i int) bool { return d.N == i })
		ok = ok && apart(x.names, texts, func(s string, i int) bool { return s == texts(i) })
		ok = ok && apart(x.clauses, func(i int) api.Clause { return api.Clause{Label: texts(i)} }, func(c api.Clause, i int) bool { return c.Label == texts(i) })
		ok = ok && apart(x.terms, func(i int) api.Core { return api.Core{Kind: i} }, func(c api.Core, i int) bool { return c.Kind == i })
		if !ok {
			t.Errorf("%s: two lists share memory", short(text))
		}
	}
}

func TestAnswersComeAgain(t *testing.T) {
	for _, text := range programs() {
		l := made(t, text)
		want := asked(l)
		for range 20 {
			if !asked(l).equal(want) {
				t.Fatalf("%s: another answer", short(text))
			}
		}
	}
}

// texts is where the bytes of all texts of some terms begin, but for empty ones.
func texts(l []api.Core) []*byte {
	var out []*byte
	add := func(texts ...string) {
		for _, s := range texts {
			if len(s) > 0 {
				out = append(out, unsafe.StringData(s))
			}
		}
	}
	for _, c := range l {
		add(c.Name, c.Datum.Text)
		add(c.Names...)
		for _, d := range c.Datum.Items {
			add(d.Text)
		}
		out = append(out, texts(c.Parts)...)
		for _, x := range c.Clauses {
			add(x.Label, x.Arg, x.K)
			out = append(out, texts([]api.Core{x.Body})...)
		}
	}
	return out
}

func TestTextsAreNewMemory(t *testing.T) {
	for _, text := range programs() {
		l := made(t, text)
		given := texts(l)
		a := asked(l)
		got := texts(a.unique)
		for i := range l {
			got = append(got, texts([]api.Core{{Names: a.free[i]}, {Names: a.assigned[i]}})...)
		}
		if slices.ContainsFunc(got, func(p *byte) bool { return slices.Contains(given, p) }) {
			t.Errorf("%s: a text of an answer lies where one lay that was handed in", short(text))
		}
	}
}

// Terms that lie in several places of a program are as good as such as are made for each place.
func TestTermsInSeveralPlaces(t *testing.T) {
	for _, text := range programs() {
		l := made(t, text)
		shared := api.Core{Kind: api.CLambda, Names: []string{"x"}, Parts: []api.Core{{Kind: api.CCall, Parts: append(slices.Clone(l), api.Core{Kind: api.CVar, Name: "x"})}}}
		own := copied(shared)
		twice := []api.Core{shared, {Kind: api.CIf, Parts: []api.Core{shared, shared, shared}}, shared}
		apart := []api.Core{copied(own), {Kind: api.CIf, Parts: []api.Core{copied(own), copied(own), copied(own)}}, own}
		if !asked(twice).equal(asked(apart)) {
			t.Errorf("%s: another answer", short(text))
		}
	}
}

// oddTerms is terms that no call makes.
func oddTerms() []api.Core {
	a := api.Core{Kind: api.CVar, Name: "a"}
	ring := api.Datum{Kind: api.DList, Items: make([]api.Datum, 2)}
	ring.Items[0], ring.Items[1] = ring, ring
	l := []api.Core{
		{}, {Kind: -1}, {Kind: math.MaxInt}, {Kind: math.MinInt, Name: "\xff", Rest: true, Deep: true}, {Kind: api.CConst, Parts: []api.Core{a}}, {Kind: api.CVoid, Clauses: []api.Clause{{Body: a}}},
		{Datum: ring}, {Kind: api.CVar, Datum: ring}, {Datum: api.Datum{Kind: -7, Text: "\xff", Num: api.Num{Float: true, F: math.NaN(), I: api.Int{Neg: true, Limbs: []uint32{0}}}}},
		{Kind: api.CHandle, Clauses: make([]api.Clause, 3)}, {Kind: api.CLambda, Rest: true}, {Kind: api.CLambda, Rest: true, Parts: []api.Core{a}},
	}
	for kind := -1; kind <= api.CVoid+1; kind++ {
		for names := range 4 {
			for parts := range 4 {
				c := api.Core{Kind: kind, Name: "a", Names: []string{"a", "a", "b"}[:names], Rest: names == 1, Parts: []api.Core{a, {Kind: kind}, {Kind: api.CSet, Name: "a"}}[:parts], Clauses: []api.Clause{{Label: "a", Arg: "a", K: "a", Body: a}, {}}[:names/2]}
				l = append(l, c, api.Core{Kind: kind, Parts: []api.Core{c, c}})
			}
		}
	}
	return l
}

// rings is terms that lie in themselves, or that are too many within one another: they hardly end, or don't.
func rings() []api.Core {
	a := api.Core{Kind: api.CVar, Name: "a"}
	var l []api.Core
	for _, kind := range []int{-1, api.CSet, api.CLet, api.CHandle} {
		ring := api.Core{Kind: kind, Name: "b", Names: []string{"a", "b"}, Parts: []api.Core{a, a, a}}
		ring.Parts[1] = ring
		rings := api.Core{Kind: kind, Parts: make([]api.Core, 2)}
		rings.Parts[0], rings.Parts[1] = rings, rings
		alone := api.Core{Kind: kind, Names: []string{"a"}, Parts: make([]api.Core, 1)}
		alone.Parts[0] = alone
		clause := api.Core{Kind: kind, Clauses: make([]api.Clause, 1)}
		clause.Clauses[0].Body = clause
		clauses := api.Core{Kind: kind, Clauses: make([]api.Clause, 2)}
		clauses.Clauses[0].Body, clauses.Clauses[1].Body = a, clauses
		wide, deep := a, a
		for range 60 {
			wide = api.Core{Kind: kind, Parts: []api.Core{wide, wide}, Clauses: []api.Clause{{Body: wide}}}
		}
		for range 1 << 18 {
			deep = api.Core{Kind: kind, Parts: []api.Core{deep}}
		}
		l = append(l, ring, rings, alone, clause, clauses, wide, deep)
	}
	many := api.Core{Kind: api.CLambda, Names: make([]string, 1<<20), Parts: []api.Core{a}}
	for range 40 {
		many = api.Core{Kind: api.CLambda, Names: many.Names, Parts: []api.Core{many, many}}
	}
	return append(l, many)
}

// P1
func TestCallsOfAnyTermsEnd(t *testing.T) {
	l := oddTerms()
	for i, c := range l {
		asked([]api.Core{c})
		asked([]api.Core{{Kind: api.CLambda, Names: []string{"a"}, Parts: []api.Core{c}}})
		free.Unique([]api.Core{{Kind: api.CVar, Name: "a"}, c, l[(i+1)%len(l)]})
	}
	asked(l)
	asked(nil)
	asked(slices.Repeat([]api.Core{{Kind: api.CVar, Name: "a"}}, 1<<17))
	for _, c := range rings() {
		asked([]api.Core{c})
		free.Unique([]api.Core{{Kind: api.CVar, Name: "a"}, {Kind: api.CLambda, Parts: []api.Core{c}}})
	}
}

// Terms may lie within one another 2^16 times.
func TestTermsDeepWithinOneAnother(t *testing.T) {
	for _, kind := range []int{api.CSet, api.CLambda, api.CLet, api.CLetrec, api.CCall, api.CHandle} {
		c := api.Core{Kind: api.CVar, Name: "a"}
		for n := range 1 << 16 {
			outer := api.Core{Kind: kind, Parts: []api.Core{c}}
			switch kind {
			case api.CSet:
				outer.Name = "b"
			case api.CLambda:
				outer.Names = []string{"b"}
			case api.CLet, api.CLetrec:
				outer.Names, outer.Parts = []string{"b"}, []api.Core{{Kind: api.CConst}, c}
			case api.CHandle:
				outer.Names, outer.Parts = []string{"b"}, []api.Core{{Kind: api.CConst}, c}
				if n%2 > 0 {
					outer.Parts = []api.Core{{Kind: api.CConst}, {Kind: api.CConst}}
					outer.Clauses = []api.Clause{{Label: "l", Arg: "b", K: "k", Body: c}}
				}
			}
			c = outer
		}
		a := asked([]api.Core{c})
		if len(a.unique) != 1 || !slices.Contains(a.free[0], "a") {
			t.Errorf("%d: %d terms, %q", kind, len(a.unique), a.free[0])
		}
	}
}

// Terms that layer 8 makes, of which a few parts are others.
func TestCallsOfChangedTermsEnd(t *testing.T) {
	random := rand.New(rand.NewPCG(9, 3))
	odd := oddTerms()
	for range 20 {
		for _, text := range programs() {
			l := made(t, text)
			var x lists
			x.gather(l)
			for range 1 + random.IntN(3) {
				if part := x.terms[random.IntN(len(x.terms))]; len(part) > 0 {
					part[random.IntN(len(part))] = odd[random.IntN(len(odd))]
				}
			}
			asked(l)
		}
	}
}
