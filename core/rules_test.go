package core_test

import (
	"math"
	"math/rand/v2"
	"slices"
	"strings"
	"testing"

	"distaff/api"
	"distaff/core"
	"distaff/datum"
)

// P1, P2, and what holds for all layers.

// programs is programs of many kinds, some of them with a fault.
func programs() []string {
	l := []string{
		"", "1", "4294967296 18446744073709551616 2.5 \"a\" #\\a #t", "'(1 4294967296 (a . b) #(c)) #(1 (4294967297))", "car", "(car 4294967296)", "(define x '(4294967296)) x", "(define (f x . y) (set! x y) (f x))", "(begin 1 (begin '(1) #(2)) '(1))", "(lambda x x)", "(lambda (x . y) (define (z) x) (define w 4294967296) (z w))",
		"(let ((x '(4294967296)) (y 2)) x y)", "(let f ((x 1) (y '(4294967296))) (f x y))", "(let* ((x 1) (x '#(4294967296))) x)", "(letrec ((x 4294967296) (y x)) y)", "(let () 1)", "(let* () (define x 1) x)", "(and) (and 1) (and 1 2 3)", "(or) (or 1) (or 1 2 3)", "(when 1 2) (unless 1 2 3)",
		"(cond) (cond (1) (2 => car) (3 4 5) (else 6 7))", "(case 1) (case 4294967296 ((4294967296 a (b)) 1) ((4294967297) 2 3) (else 4 5))", "(do ((x 1 (car x)) (y 4294967296)) ((car x) 1 2) 3 4) (do () (1))", "(handle 1) (handle (car 1) (return (x) x 1) (l (x k) x) (m (y k) (define z y) z)) (handle-shallow 1 (l (x k) 4294967296))", "(perform l) (perform l '(4294967296))",
		"`(1 ,car 4294967296) `(,@car (2 ,car) . #(4294967296 ,car)) `(,car 4294967296 a . b) `(1 (2 3) . ,car) `#(1 (4294967296) ,car) `(4294967296)", "(define x 1) (define x 2)", "(if 1 2) (if 1 2 3)",
		"()", "'(4294967296) (if)", "(lambda (if) 1)", "1 (car (define x 1))", "unbound", "(define x 1) (car x unbound)", "(begin 1 2 (begin 3 ()))", "(let ((x 1) (x 2)) x)", "(handle 1 (l (x k) 1) (l (x k) 2))", "`(1 ,(car 4294967296) `2)", "(cond (1 2) 3)", "(define-syntax x 1)", "(set! car 1)", "(define (f 1) 2)",
	}
	return append(l, strings.Join(l[:28], " "))
}

// roomy is the same data in other memory, with spare room behind each list.
func roomy(l []api.Datum) []api.Datum {
	l = append(slices.Clone(l), api.Datum{Kind: 9, N: 3735928559}, api.Datum{Text: "spare"})[:len(l)]
	for i := range l {
		limbs := l[i].Num.I.Limbs
		l[i].Num.I.Limbs = slices.Concat(limbs, []uint32{3735928559, 0, math.MaxUint32})[:len(limbs)]
		l[i].Items = roomy(l[i].Items)
	}
	return l
}

// whole is data with the spare room of their lists as part of them, in other memory.
func whole(l []api.Datum) []api.Datum {
	l = slices.Clone(l[:cap(l)])
	for i := range l {
		l[i].Num.I.Limbs = slices.Clone(l[i].Num.I.Limbs[:cap(l[i].Num.I.Limbs)])
		l[i].Items = whole(l[i].Items)
	}
	return l
}

// wholeTerms is the same of terms.
func wholeTerms(l []api.Core) []api.Core {
	l = slices.Clone(l[:cap(l)])
	for i := range l {
		l[i].Datum = whole([]api.Datum{l[i].Datum})[0]
		l[i].Names = slices.Clone(l[i].Names[:cap(l[i].Names)])
		l[i].Parts = wholeTerms(l[i].Parts)
		l[i].Clauses = slices.Clone(l[i].Clauses[:cap(l[i].Clauses)])
		for k := range l[i].Clauses {
			l[i].Clauses[k].Body = wholeTerms([]api.Core{l[i].Clauses[k].Body})[0]
		}
	}
	return l
}

// copied is the same term in other memory.
func copied(c api.Core) api.Core {
	c.Datum = datum.Copy(c.Datum)
	c.Names, c.Parts, c.Clauses = slices.Clone(c.Names), slices.Clone(c.Parts), slices.Clone(c.Clauses)
	for i := range c.Parts {
		c.Parts[i] = copied(c.Parts[i])
	}
	for i := range c.Clauses {
		c.Clauses[i].Body = copied(c.Clauses[i].Body)
	}
	return c
}

// spoil writes over all memory of data, spare room included.
func spoil(l []api.Datum) {
	l = l[:cap(l)]
	for i := range l {
		limbs := l[i].Num.I.Limbs[:cap(l[i].Num.I.Limbs)]
		for k := range limbs {
			limbs[k] = ^limbs[k]
		}
		spoil(l[i].Items)
		l[i] = api.Datum{Kind: 9, N: -1, Text: "spoilt"}
	}
}

// spoilTerms is the same of terms.
func spoilTerms(l []api.Core) {
	l = l[:cap(l)]
	for i := range l {
		spoil([]api.Datum{l[i].Datum})
		names := l[i].Names[:cap(l[i].Names)]
		for k := range names {
			names[k] = "spoilt"
		}
		spoilTerms(l[i].Parts)
		clauses := l[i].Clauses[:cap(l[i].Clauses)]
		for k := range clauses {
			spoilTerms([]api.Core{clauses[k].Body})
			clauses[k] = api.Clause{Label: "spoilt"}
		}
		l[i] = api.Core{Kind: 99, Name: "spoilt"}
	}
}

func TestArgumentsStay(t *testing.T) {
	for _, text := range programs() {
		l := roomy(read(t, text))
		want := whole(l)
		terms, _ := core.Make(l)
		if !slices.EqualFunc(whole(l), want, equalData) {
			t.Errorf("%q is changed", short(text))
		}
		kept := wholeTerms(terms)
		for i := range terms {
			core.Same(terms[i], terms[0])
			core.Size(terms[i])
		}
		if !slices.EqualFunc(wholeTerms(terms), kept, equal) {
			t.Errorf("%q: terms are changed", short(text))
		}
	}
}

func TestArgumentsAreNotKept(t *testing.T) {
	for _, text := range programs() {
		l := roomy(read(t, text))
		got, fault := core.Make(l)
		want := wholeTerms(got)
		if spoil(l); !slices.EqualFunc(wholeTerms(got), want, equal) {
			t.Errorf("%q is kept", short(text))
		}
		if again, other := core.Make(read(t, text)); other != fault || !slices.EqualFunc(again, got, equal) {
			t.Errorf("%q: another answer later", short(text))
		}
	}
}

// P2: what is done with an answer isn't seen in what was handed in, nor in another answer.
func TestAnswersAreApart(t *testing.T) {
	for _, text := range programs() {
		l := roomy(read(t, text))
		given := whole(l)
		got, fault := core.Make(l)
		second, _ := core.Make(l)
		want := wholeTerms(second)
		if spoilTerms(got); !slices.EqualFunc(whole(l), given, equalData) {
			t.Errorf("%q: an answer shares memory with what was handed in", short(text))
		}
		if !slices.EqualFunc(wholeTerms(second), want, equal) {
			t.Errorf("%q: two answers share memory", short(text))
		}
		if third, other := core.Make(l); other != fault || !slices.EqualFunc(third, second, equal) {
			t.Errorf("%q: another answer later", short(text))
		}
	}
}

// lists is all lists of some terms, each with its spare room.
type lists struct {
	terms   [][]api.Core
	clauses [][]api.Clause
	names   [][]string
	items   [][]api.Datum
	limbs   [][]uint32
}

func (x *lists) gather(l []api.Core) {
	x.terms = append(x.terms, l[:cap(l)])
	for _, c := range l {
		x.names = append(x.names, c.Names[:cap(c.Names)])
		x.gatherData([]api.Datum{c.Datum})
		x.gather(c.Parts)
		x.clauses = append(x.clauses, c.Clauses[:cap(c.Clauses)])
		for _, clause := range c.Clauses {
			x.gather([]api.Core{clause.Body})
		}
	}
}

func (x *lists) gatherData(l []api.Datum) {
	x.items = append(x.items, l[:cap(l)])
	for _, d := range l {
		x.limbs = append(x.limbs, d.Num.I.Limbs[:cap(d.Num.I.Limbs)])
		x.gatherData(d.Items)
	}
}

// apart writes into each of some lists what no other has, and asks whether all of it is there still.
func apart[T any](l [][]T, mark func(i int) T, is func(x T, i int) bool) bool {
	for i := range l {
		for k := range l[i] {
			l[i][k] = mark(i)
		}
	}
	for i := range l {
		if slices.ContainsFunc(l[i], func(x T) bool { return !is(x, i) }) {
			return false
		}
	}
	return true
}

func TestListsOfAnAnswerAreApart(t *testing.T) {
	for _, text := range programs() {
		l, _ := core.Make(read(t, text))
		var x lists
		x.gather(l)
		texts := func(i int) string { return strings.Repeat("x", i%100) + strings.Repeat("y", i/100) }
		ok := apart(x.limbs, func(i int) uint32 { return uint32(i) }, func(n uint32, i int) bool { return n == uint32(i) })
		ok = ok && apart(x.items, func(i int) api.Datum { return api.Datum{N: i} }, func(d api.Datum, i int) bool { return d.N == i })
		ok = ok && apart(x.names, texts, func(s string, i int) bool { return s == texts(i) })
		ok = ok && apart(x.clauses, func(i int) api.Clause { return api.Clause{Label: texts(i)} }, func(c api.Clause, i int) bool { return c.Label == texts(i) })
		ok = ok && apart(x.terms, func(i int) api.Core { return api.Core{Kind: i} }, func(c api.Core, i int) bool { return c.Kind == i })
		if !ok {
			t.Errorf("%q: two lists share memory", short(text))
		}
	}
}

func TestAnswersComeAgain(t *testing.T) {
	for _, text := range programs() {
		l := read(t, text)
		want, fault := core.Make(l)
		for range 20 {
			got, other := core.Make(l)
			if other != fault || !slices.EqualFunc(got, want, equal) {
				t.Fatalf("%q: another answer", short(text))
			}
			for i := range got {
				if !core.Same(got[i], want[i]) || core.Size(got[i]) != counted(want[i]) {
					t.Fatalf("%q: another term", short(text))
				}
			}
		}
	}
}

// isSound complains, if a call doesn't answer as all calls do: terms, or a fault at a form.
func isSound(t *testing.T, l []api.Datum) {
	t.Helper()
	got, fault := core.Make(l)
	switch {
	case fault == api.Fault{}:
		for _, c := range got {
			core.Size(c)
		}
	case len(got) != 0 || fault.At < 0 || fault.At >= len(l) || fault.Err < api.ErrSyntax || fault.Err > api.ErrDefine:
		t.Errorf("%d terms, %v", len(got), fault)
	}
}

// nested is a datum in n others of a kind.
func nested(n, kind int, d api.Datum) api.Datum {
	for range n {
		d = api.Datum{Kind: kind, Items: []api.Datum{d}}
	}
	return d
}

// odd is data that aren't RIGHT, some of which hardly end, or don't.
func odd() []api.Datum {
	a := sym("car")
	l := []api.Datum{dot(), dot(a), dot(a, list(a)), dot(a, list()), dot(a, dot(a, a)), dot(list(a)), dot(sym("unquote")), sym(""), sym("."), sym("a b"), sym(" t"), sym(" "), sym("\xff"), sym(" if "), {Kind: api.DStr, Text: "\xff"}, {Kind: api.DChar, N: -1}, {Kind: api.DBool, N: 7}, vec(many(201, a)...), list(many(3000, a)...), list(many(1<<17, a)...), nested(61, api.DList, a), nested(1<<16-1, api.DList, a), nested(1<<16-1, api.DVec, a)}
	for _, kind := range []int{math.MinInt, -1, 8, math.MaxInt} {
		l = append(l, api.Datum{Kind: kind}, api.Datum{Kind: kind, Text: "if", Items: []api.Datum{sym("if")}}, list(api.Datum{Kind: kind, Items: []api.Datum{a}}))
	}
	for _, kind := range []int{api.DNum, api.DSym, api.DList, api.DDot, api.DVec, 8} {
		for _, head := range []string{"car", "begin", "if", "define", "quasiquote", "unquote", "let", "cond"} {
			ring := api.Datum{Kind: kind, Text: head, Items: []api.Datum{sym(head), a, a}}
			ring.Items[1] = ring
			rings := api.Datum{Kind: kind, Text: head, Items: make([]api.Datum, 3)}
			rings.Items[0], rings.Items[1], rings.Items[2] = rings, rings, rings
			wide := a
			for range 60 {
				wide = api.Datum{Kind: kind, Items: []api.Datum{wide, wide}}
			}
			l = append(l, ring, rings, wide, api.Datum{Kind: kind, Text: head, Items: []api.Datum{a}})
		}
	}
	return append(l, api.Datum{Num: api.Num{I: api.Int{Neg: true, Limbs: []uint32{0, 0}}}}, api.Datum{Num: api.Num{Float: true, F: math.NaN(), I: api.Int{Limbs: []uint32{1}}}}, api.Datum{Kind: api.DSym, Text: "car", N: 1}, api.Datum{Kind: api.DList, Text: "car", Items: []api.Datum{a}})
}

// P1
func TestCallsOfAnyDataEnd(t *testing.T) {
	for _, d := range odd() {
		isSound(t, []api.Datum{d})
		isSound(t, []api.Datum{sym("car"), list(sym("quote"), d), sym("car")})
		for _, head := range strings.Fields(keywords + " car x") {
			for _, form := range []api.Datum{list(sym(head), d), list(d, sym(head)), dot(sym(head), d), list(sym(head), sym("x"), d), list(sym(head), d, sym("car")), list(sym(head), list(d), sym("car")), list(sym(head), list(list(sym("x"), d)), sym("car")), list(sym(head), list(list(d, sym("car"))), list(d)), list(sym(head), sym("car"), list(d, d)), list(sym(head), sym("car"), list(sym("l"), d, sym("car")))} {
				isSound(t, []api.Datum{form})
			}
		}
	}
	isSound(t, nil)
	isSound(t, many(1<<20, list()))
	isSound(t, append(many(1<<17, sym("car")), sym("unbound")))
}

// Programs that can be read, of which a few parts are others.
func TestCallsOfChangedProgramsEnd(t *testing.T) {
	random := rand.New(rand.NewPCG(8, 2))
	odds := odd()
	for range 20 {
		for _, text := range programs() {
			l := read(t, text)
			var x lists
			x.gatherData(l)
			for range 1 + random.IntN(3) {
				if part := x.items[random.IntN(len(x.items))]; len(part) > 0 {
					part[random.IntN(len(part))] = odds[random.IntN(len(odds))]
				}
			}
			isSound(t, l)
		}
	}
}

// oddTerms is terms that no call makes, some of which hardly end, or don't.
func oddTerms() []api.Core {
	a := api.Core{Kind: api.CVar, Name: "a"}
	l := []api.Core{{}, {Kind: -1}, {Kind: math.MaxInt}, {Kind: math.MinInt, Name: "\xff", Rest: true, Deep: true}, term(api.CIf), term(api.CLet), term(api.CLambda), {Kind: api.CLet, Names: []string{"x", "y"}}, {Kind: api.CHandle}, {Kind: api.CHandle, Clauses: make([]api.Clause, 3)}, term(api.CConst, a), {Kind: api.CVoid, Clauses: []api.Clause{{Body: a}}}}
	for _, d := range odd() {
		l = append(l, konst(d), api.Core{Kind: api.CVar, Datum: d})
	}
	for _, kind := range []int{-1, api.CConst, api.CCall, api.CHandle} {
		ring := api.Core{Kind: kind, Parts: []api.Core{a, a, a}}
		ring.Parts[1] = ring
		rings := api.Core{Kind: kind, Parts: make([]api.Core, 2)}
		rings.Parts[0], rings.Parts[1] = rings, rings
		alone := api.Core{Kind: kind, Parts: make([]api.Core, 1)}
		alone.Parts[0] = alone
		clause := api.Core{Kind: kind, Clauses: make([]api.Clause, 1)}
		clause.Clauses[0].Body = clause
		clauses := api.Core{Kind: kind, Clauses: make([]api.Clause, 2)}
		clauses.Clauses[0].Body, clauses.Clauses[1].Body = a, clauses
		wide, deep := a, a
		for range 60 {
			wide = api.Core{Kind: kind, Parts: []api.Core{wide, wide}, Clauses: []api.Clause{{Body: wide}}}
		}
		for range 1 << 18 {
			deep = api.Core{Kind: kind, Parts: []api.Core{deep}}
		}
		l = append(l, ring, rings, alone, clause, clauses, wide, deep)
	}
	return l
}

func TestCallsOfAnyTermsEnd(t *testing.T) {
	l, again := oddTerms(), oddTerms()
	for i, c := range l {
		if core.Size(c) < 1 {
			t.Errorf("%d: no term", i)
		}
		core.Same(c, c)
		core.Same(c, again[i])
		core.Same(c, l[(i+1)%len(l)])
		core.Same(term(api.CSeq, c, c), term(api.CSeq, c, again[i]))
		core.Same(api.Core{}, c)
	}
}

// Terms hold what the chapter's Types say.
func TestWhatComesOutCanBe(t *testing.T) {
	for _, text := range programs() {
		l, _ := core.Make(read(t, text))
		for _, c := range l {
			areRight(t, text, c)
		}
	}
}

// areRight complains, if a term has what its kind hasn't, or a constant that can't be.
func areRight(t *testing.T, text string, c api.Core) {
	t.Helper()
	if !hasNothingElse(c) || !datum.Right(c.Datum) {
		t.Errorf("%s: %+v", short(text), c)
	}
	for _, part := range c.Parts {
		areRight(t, text, part)
	}
	for _, x := range c.Clauses {
		areRight(t, text, x.Body)
	}
}
