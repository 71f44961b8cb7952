package macro_test

import (
	"slices"
	"testing"

	"distaff/api"
)

// P7.1: ErrSteps.

// counting is MACROS that make a step for each of their Items, the first one too: (count a b c) comes to end, (keep z a b c) to z, both by four.
func counting(t *testing.T) []api.Datum {
	t.Helper()
	return read(t, defined("count", "((_) end)", "((_ a . b) (count . b))")+defined("keep", "((_ a) a)", "((_ a b . c) (keep a . c))"))
}

// counted is a use that makes n steps.
func counted(n int) api.Datum {
	return list(append([]api.Datum{sym("count")}, many(n-1, sym("z"))...)...)
}

// kept is a use that comes to a datum by n steps.
func kept(n int, d api.Datum) api.Datum {
	return list(append([]api.Datum{sym("keep"), d}, many(n-1, sym("z"))...)...)
}

// with is a program of these MACROS, and of FORMS behind them.
func with(macros []api.Datum, forms ...api.Datum) []api.Datum {
	return append(slices.Clone(macros), forms...)
}

func TestSteps(t *testing.T) {
	macros := counting(t)
	end, bad := sym("end"), list(sym("keep"))
	full := many(20, counted(100)) // 2000 steps
	comesOut(t, with(macros, list(full...)), list(many(20, end)...))
	comesOut(t, with(macros, list(append(full, list(), sym("count"), list(sym("quote"), counted(1)))...)), list(append(many(20, end), list(), sym("count"), list(sym("quote"), counted(1)))...))
	hasFault(t, with(macros, list(append(full, counted(1))...)), api.ErrSteps, 2)
	hasFault(t, with(macros, sym("a"), list(append(full, list(list(counted(1))), bad)...)), api.ErrSteps, 3)
	hasFault(t, with(macros, list(append(full, bad)...)), api.ErrMatch, 2) // where none fits no step is made
	hasFault(t, with(macros, list(append(append(full[:19:19], counted(101)), bad)...)), api.ErrSteps, 2)
	hasFault(t, with(macros, list(append(append(full[:19:19], counted(99)), bad)...)), api.ErrMatch, 2)
	hasFault(t, with(macros, list(many(30, counted(100))...)), api.ErrSteps, 2)
	nested := list(append(many(18, counted(100)), list(counted(100), dot(list(counted(50)), counted(49), kept(1, sym("x")), sym("y"))))...)
	comesOut(t, with(macros, nested), list(append(many(18, end), list(end, dot(list(end), end, sym("x"), sym("y"))))...))
	hasFault(t, with(macros, list(nested, kept(1, sym("x")))), api.ErrSteps, 2)
}

func TestEachFormHasStepsOfItsOwn(t *testing.T) {
	macros := counting(t)
	full := list(many(20, counted(100))...)
	want := list(many(20, sym("end"))...)
	comesOut(t, with(macros, many(50, full)...), many(50, want)...)
	hasFault(t, with(macros, full, full, list(full, counted(1)), full), api.ErrSteps, 4)
	comesOut(t, with(macros, many(2500, counted(1))...), many(2500, sym("end"))...)
}

// The 2001st step isn't made: what the TEMPLATE can't make isn't met.
func TestOneStepTooManyIsNotMade(t *testing.T) {
	macros := with(counting(t), read(t, defined("unlike", "((_ (a ...) (b ...)) ((a b) ...))"))...)
	unlike := one(t, "(unlike (1) ())")
	hasFault(t, with(macros, list(append(many(20, counted(100)), unlike)...)), api.ErrSteps, 3)
	hasFault(t, with(macros, list(append(many(19, counted(100)), counted(99), unlike)...)), api.ErrMatch, 3)
}

func TestEndlessSteps(t *testing.T) {
	for _, text := range []string{
		defined("m", "((_) (m))") + "(m)", defined("m", "((_) (m) )") + "(a (m))", defined("m", "((_) (n))") + defined("n", "((_) (m))") + "(m)", defined("m", "((_ . a) (m . a))") + "(m 1 . 2)",
		defined("m", "((_) (a (m)))") + "(m)", defined("m", "((_) ((m)))") + "(m)", defined("m", "((_) (a . (b (m))))") + "(m)", defined("m", "((_) ((m) . m))") + "(m)", defined("m", "((_) ((m) (m)))") + "(m)", defined("m", "((_) (a (b) (m) (c (m))))") + "(m)",
		defined("m", "((_ . a) (m a . a))") + "(m)", defined("m", "((_ a) (m (a a)))") + "(m 1)", defined("m", "((_ a ...) (m a ... a ...))") + "(m 1)", defined("m", "((_ a) (x (m (a)) (m (a))))") + "(m 1)",
	} {
		l := read(t, text)
		hasFault(t, l, api.ErrSteps, len(l)-1)
		hasFault(t, append(l, list(sym("m"), sym("m"), sym("m"))), api.ErrSteps, len(l)-1)
	}
}

// What a TEMPLATE makes must be RIGHT, though it would come out as such a datum: no use of drop comes to more than 1.
func TestWhatIsMadeIsRight(t *testing.T) {
	macros := read(t, defined("drop", "((_ . a) 1)")+defined("in", "((_ a b) (drop a ((b))))")+defined("behind", "((_ a ...) (drop a ... #(a ...)))")+defined("twice", "((_ a . b) (drop a a . b))"))
	in := func(d api.Datum) api.Datum { return list(sym("in"), list(), d) }
	twice := func(d api.Datum, n int) api.Datum {
		return list(append([]api.Datum{sym("twice"), d}, many(n, sym("b"))...)...)
	}
	for _, deep := range []func(n int) api.Datum{
		func(n int) api.Datum { return nested(n, sym("a")) }, func(n int) api.Datum { return nested(n-1, list()) },
		func(n int) api.Datum { return shelled(n, sym("a")) }, func(n int) api.Datum { return shelled(n-1, vec()) }, func(n int) api.Datum { return nested(n-1, vec()) }, func(n int) api.Datum { return shelled(n-1, list()) },
		func(n int) api.Datum { return nested(n-1, dot(sym("a"), sym("b"))) }, func(n int) api.Datum { return nested(n-2, dot(sym("a"), vec(sym("b")))) }, func(n int) api.Datum { return nested(n/2, shelled(n-n/2, sym("a"))) },
	} {
		comesOut(t, with(macros, in(deep(57))), read(t, "1")...) // with (drop () ((b))) around it a depth of 60
		hasFault(t, with(macros, in(deep(58))), api.ErrSteps, 4)
		hasFault(t, with(macros, sym("a"), list(in(deep(57)), in(deep(58)))), api.ErrSteps, 5)
		hasFault(t, with(macros, list(in(deep(58)), list(sym("in")))), api.ErrSteps, 4) // ahead of what can't be behind it
	}
	for _, wide := range []func(n int) api.Datum{
		func(n int) api.Datum { return list(many(n-1, sym("z"))...) }, func(n int) api.Datum { return dot(many(n-1, sym("z"))...) }, func(n int) api.Datum { return list(vec(many(198, list())...), list(many(n-201, sym("z"))...)) },
	} {
		comesOut(t, with(macros, twice(wide(1499), 0)), read(t, "1")...) // (drop a a) has 3000 NODES
		hasFault(t, with(macros, twice(wide(1499), 1)), api.ErrSteps, 4)
		hasFault(t, with(macros, twice(wide(1500), 0)), api.ErrSteps, 4)
		comesOut(t, with(macros, twice(wide(1400), 198)), read(t, "1")...)
		hasFault(t, with(macros, twice(wide(1400), 199)), api.ErrSteps, 4)
		comesOut(t, with(macros, list(sym("quote"), twice(wide(1500), 0))), list(sym("quote"), twice(wide(1500), 0)))
	}
	comesOut(t, with(macros, one(t, "(behind 1 2 3)")), read(t, "1")...)
}

// A list with a tail has an Item ahead of that.
func TestWhatIsMadeHasNoTailAlone(t *testing.T) {
	m := defined("m", "((_ a (b ...)) (drop (b ... . a)))") + defined("drop", "((_ a) (quote a))")
	expands(t, m+"(m 1 (2)) (m 1 (2 3)) (m (1) ()) (m (1 . 2) ()) (m () ()) (m (1) (2))", "'(2 . 1) '(2 3 . 1) '(1) '(1 . 2) '() '(2 1)")
	for _, tail := range []string{"1", "x", "\"\"", "#()", "#(1)"} {
		fails(t, m+"(m "+tail+" ())", api.ErrSteps, 2)
	}
}

func TestWhatComesOutIsRight(t *testing.T) {
	for depth := 1; depth <= 57; depth++ {
		macros := []api.Datum{makes("m", nested(depth, sym("a"))), makes("n", shelled(depth-1, vec()))}
		for around := range 60 {
			m, n := nested(around, list(sym("m"))), nested(around, list(sym("n")))
			if depth+around <= 60 {
				comesOut(t, with(macros, m, n), nested(depth+around, sym("a")), nested(around, shelled(depth-1, vec())))
			} else {
				hasFault(t, with(macros, sym("b"), m), api.ErrSteps, 3)
				hasFault(t, with(macros, n), api.ErrSteps, 2)
			}
		}
	}
}

// An error that is met within the FORM is ahead of what the whole FORM isn't.
func TestErrorsAheadOfWhatComesOut(t *testing.T) {
	macros := with([]api.Datum{makes("deep", nested(50, sym("a"))), makes("wide", flat("a", 2000))}, read(t, defined("bad", "((_ 1) 1)"))...)
	bad := list(sym("bad"))
	deep, wide := nested(20, list(sym("deep"))), list(list(sym("wide")), list(sym("wide")))
	for _, great := range []api.Datum{deep, wide} {
		hasFault(t, with(macros, great), api.ErrSteps, 3)
		hasFault(t, with(macros, list(great, bad)), api.ErrMatch, 3)
		hasFault(t, with(macros, great, bad), api.ErrSteps, 3)
		hasFault(t, with(macros, dot(great, list(list(bad)), sym("b"))), api.ErrMatch, 3)
		hasFault(t, with(macros, great, one(t, "(define-syntax)")), api.ErrSteps, 3)
	}
}

func TestNodes(t *testing.T) {
	none := read(t, defined("m", "((_ . a) 1)"))
	for _, two := range []api.Datum{one(t, "(m)"), one(t, "(m 1 2 3)")} {
		comesOut(t, with(none, flat("a", 2999), two), flat("a", 2999), one(t, "1"))
		hasFault(t, with(none, flat("a", 3000), two), api.ErrSteps, 2)
		hasFault(t, with(none, flat("a", 2999), two, two), api.ErrSteps, 3)
		hasFault(t, with(none, flat("a", 2999), two, list(sym("a"), two)), api.ErrSteps, 3)
	}
	comesOut(t, many(3000, sym("a")), many(3000, sym("a"))...)
	hasFault(t, many(3001, sym("a")), api.ErrSteps, 3000)
	comesOut(t, many(1500, list(sym("a"))), many(1500, list(sym("a")))...)
	hasFault(t, many(1501, list(sym("a"))), api.ErrSteps, 1500)
	hasFault(t, append(many(1499, vec(sym("a"))), one(t, "(a . b)")), api.ErrSteps, 1499)
	comesOut(t, append(many(1499, vec(sym("a"))), list(list())), append(many(1499, vec(sym("a"))), list(list()))...)
	comesOut(t, []api.Datum{flat("quote", 3000)}, flat("quote", 3000))
	hasFault(t, []api.Datum{flat("quote", 3000), list()}, api.ErrSteps, 1)
	hasFault(t, []api.Datum{list(), flat("quote", 3000)}, api.ErrSteps, 1)
	hasFault(t, append(many(2999, list()), one(t, "(define-syntax m)")), api.ErrMacro, 2999)
	comesOut(t, slices.Concat(none, many(2999, list()), none, many(1, list()), many(10, none[0])), many(3000, list())...) // nothing of a DEFINITION comes out
}

func TestNodesThatAreMade(t *testing.T) {
	macros := []api.Datum{makes("m", flat("a", 1000)), makes("n", flat("a", 999)), makes("o", list())}
	m, n, o := list(sym("m")), list(sym("n")), list(sym("o"))
	comesOut(t, with(macros, m, m, m), many(3, flat("a", 1000))...)
	hasFault(t, with(macros, m, m, m, sym("a")), api.ErrSteps, 6)
	comesOut(t, with(macros, list(m, m, n)), list(flat("a", 1000), flat("a", 1000), flat("a", 999)))
	comesOut(t, with(macros, list(m, n, n, o)), list(flat("a", 1000), flat("a", 999), flat("a", 999), list()))
	hasFault(t, with(macros, list(m, m, m)), api.ErrSteps, 3)
	hasFault(t, with(macros, list(m, m, n, o)), api.ErrSteps, 3)
	hasFault(t, with(macros, list(list(list(m), m), n)), api.ErrSteps, 3)
	hasFault(t, with(macros, sym("a"), list(m, m, n)), api.ErrSteps, 4)
	hasFault(t, with(macros, dot(m, m, n, vec())), api.ErrSteps, 3)
	hasFault(t, with(macros, list(many(1400, m)...)), api.ErrSteps, 3)
	comesOut(t, with(macros, many(3000, o)...), many(3000, list())...)
	hasFault(t, with(macros, many(3001, o)...), api.ErrSteps, 3003)
}

// At most 200 steps and Items stand around a datum that is to be EXPANDED.

func TestStepsAround(t *testing.T) {
	macros := counting(t)
	comesOut(t, with(macros, counted(200)), sym("end"))
	hasFault(t, with(macros, counted(201)), api.ErrSteps, 2)
	comesOut(t, with(macros, list(counted(199), counted(199))), list(sym("end"), sym("end")))
	hasFault(t, with(macros, list(counted(200))), api.ErrSteps, 2)
	for around := range 60 {
		comesOut(t, with(macros, nested(around, counted(200-around))), nested(around, sym("end")))
		hasFault(t, with(macros, sym("a"), nested(around, counted(201-around))), api.ErrSteps, 3)
	}
}

func TestItemsAround(t *testing.T) {
	macros := counting(t)
	for _, text := range []string{"a", "1", "\"a\"", "()", "#()", "#(a (count))", "(quote a)", "(quote (a (b (count z))))", "(quote)"} { // nothing in these is EXPANDED
		d := one(t, text)
		comesOut(t, with(macros, kept(200, d)), d)
		hasFault(t, with(macros, kept(201, d)), api.ErrSteps, 2)
		for _, depth := range []int{1, 2, 3, 30, 50} {
			deep := nested(depth, d)
			comesOut(t, with(macros, kept(200-depth, deep)), deep)
			hasFault(t, with(macros, kept(201-depth, deep)), api.ErrSteps, 2)
		}
	}
	for _, text := range []string{"(a)", "(a b)", "(a . b)", "(() . a)", "(1 . #())", "(quote . a)", "(quote a . b)"} {
		d := one(t, text)
		comesOut(t, with(macros, kept(199, d)), d)
		hasFault(t, with(macros, kept(200, d)), api.ErrSteps, 2)
	}
}

func TestUsesThatAreTooFarWithin(t *testing.T) {
	macros := with(counting(t), read(t, defined("bad", "((_ 1) 1)"))...)
	bad := list(sym("bad"))
	hasFault(t, with(macros, kept(200, bad)), api.ErrMatch, 3) // it is to be EXPANDED
	hasFault(t, with(macros, kept(201, bad)), api.ErrSteps, 3)
	hasFault(t, with(macros, kept(199, list(bad))), api.ErrMatch, 3)
	hasFault(t, with(macros, kept(200, list(bad))), api.ErrSteps, 3)
	comesOut(t, with(macros, kept(199, counted(1))), sym("end"))
	hasFault(t, with(macros, kept(200, counted(1))), api.ErrSteps, 3) // what it makes is one step further
	comesOut(t, with(macros, kept(150, list(sym("a"), kept(49, sym("b"))))), list(sym("a"), sym("b")))
	hasFault(t, with(macros, kept(150, list(sym("a"), kept(50, sym("b"))))), api.ErrSteps, 3)
	hasFault(t, with(macros, list(bad, counted(201))), api.ErrMatch, 3)
	hasFault(t, with(macros, list(counted(200), bad)), api.ErrSteps, 3)
}
