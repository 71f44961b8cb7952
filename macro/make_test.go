package macro_test

import (
	"testing"

	"distaff/api"
)

// P7.3

// made complains, if a TEMPLATE makes something else of what the parts of a pattern mean.
func made(t *testing.T, parts, template, use, want string) {
	t.Helper()
	expands(t, ruled("(_ "+parts+")", "(quote "+template+")")+"(m "+use+")", "(quote "+want+")")
}

// unlike complains, if a TEMPLATE can be made where what is repeated is of unlike lengths.
func unlike(t *testing.T, parts, template, use string) {
	t.Helper()
	fails(t, ruled("(_ "+parts+")", template)+"(m "+use+")", api.ErrMatch, 1)
	fails(t, ruled("(_ "+parts+")", "(x ("+template+") . y)")+"a (b (m "+use+"))", api.ErrMatch, 2)
	fails(t, defined("m", "((_ "+parts+") "+template+")", "((_ . other) 1)")+"(m "+use+")", api.ErrMatch, 1) // another RULE isn't asked
}

func TestTemplatesWithoutEllipses(t *testing.T) {
	for _, template := range anyData() {
		if template != "..." && template != "a" {
			expands(t, ruled("(_ z)", "(quote "+template+")")+"(m 1)", "(quote "+template+")")
		}
	}
	for _, d := range anyData() {
		made(t, "a", "a", d, d)
		made(t, "a b", "(b (a . #(a)) b a)", "1 "+d, "("+d+" (1 . #(a)) "+d+" 1)")
	}
	made(t, "a", "(x a (a . y) #(a) \"a\" A)", "(1 2)", "(x (1 2) ((1 2) . y) #(a) \"a\" A)")
	expands(t, ruled("(_ a)", "a")+"(m 1) (m (x)) (m m) (m (quote (m)))", "1 (x) m (quote (m))")
	expands(t, ruled("(_)", "x")+"(m) ((m)) (m)", "x (x) x")
	made(t, "a b", "(a b)", "b a", "(b a)") // what a variable means isn't gone through again
	made(t, "a b", "(a b)", "(a ... b) (...)", "((a ... b) (...))")
}

func TestTemplatesWithEllipses(t *testing.T) {
	made(t, "a ...", "(a ...)", "", "()")
	made(t, "a ...", "(x a ... y)", "", "(x y)")
	made(t, "a ...", "(x a ... y)", "1", "(x 1 y)")
	made(t, "a ...", "(a ... x a ...)", "1 2 3", "(1 2 3 x 1 2 3)")
	made(t, "a ...", "((x a y) ...)", "1 2", "((x 1 y) (x 2 y))")
	made(t, "a ...", "((a a) ... (a) ... a ...)", "1 2", "((1 1) (2 2) (1) (2) 1 2)")
	made(t, "a b ...", "((a b) ... a)", "1 2 3", "((1 2) (1 3) 1)")
	made(t, "a b ...", "((a b) ... a)", "1", "(1)")
	made(t, "(a b) ...", "((b a) ... (a . b) ...)", "(1 2) (3 4)", "((2 1) (4 3) (1 . 2) (3 . 4))")
	made(t, "(a ...) (b ...)", "((a b) ...)", "(1 2) (3 4)", "((1 3) (2 4))")
	made(t, "(a ...) (b ...)", "(a ... b ...)", "(1 2 3) (4)", "(1 2 3 4)")
	made(t, "(a ...) (b ...)", "((a b) ...)", "() ()", "()")
	made(t, "a ...", "((x (y (a))) ...)", "1 (2)", "((x (y (1))) (x (y ((2)))))")
	made(t, "a ...", "((#(a) a #(...)) ...)", "1 2", "((#(a) 1 #(...)) (#(a) 2 #(...)))")
	made(t, "a ...", "((lit a else) ...)", "1", "((lit 1 else))")
}

func TestTemplatesWithEllipsesWithinEllipses(t *testing.T) {
	made(t, "(a ...) ...", "((x a ... y) ... z)", "() (1) (2 3)", "((x y) (x 1 y) (x 2 3 y) z)")
	made(t, "(a ...) ...", "(((a x) ...) ...)", "() (1) (2 3)", "(() ((1 x)) ((2 x) (3 x)))")
	made(t, "(a ...) ...", "(((a ...) (a ...)) ...)", "(1) (2 3)", "(((1) (1)) ((2 3) (2 3)))")
	made(t, "(a ...) ...", "((a ...) ... (b a ...) ...)", "(1) ()", "((1) () (b 1) (b))")
	made(t, "(a b ...) ...", "((a (b a) ...) ...)", "(1 2 3) (4) (5 6)", "((1 (2 1) (3 1)) (4) (5 (6 5)))")
	made(t, "((a ...) ...) ...", "((((x a) ...) ...) ...)", "((1 2) ()) () ((3))", "((((x 1) (x 2)) ()) () (((x 3))))")
	made(t, "((a ...) ...) ((b ...) ...)", "(((a b) ...) ...)", "((1 2) () (3)) ((4 5) () (6))", "(((1 4) (2 5)) () ((3 6)))")
	made(t, "((a ...) ...) ((b ...) ...)", "((a ... b ...) ...)", "((1 2) () (3)) ((4) (5) ())", "((1 2 4) (5) (3))")
}

// A variable of a lower RANK means one of its many by the outermost ELLIPSES.
func TestVariablesWithinMoreItemsThanTheirRank(t *testing.T) {
	made(t, "a (b ...)", "((a b a) ... (a))", "1 (2 3)", "((1 2 1) (1 3 1) (1))")
	made(t, "a ((b ...) ...)", "(((a b) ...) ...)", "1 ((2 3) () (4))", "(((1 2) (1 3)) () ((1 4)))")
	made(t, "(a ...) ((b ...) ...)", "(((a b) ...) ...)", "(1 2 3) ((4 5) () (6))", "(((1 4) (1 5)) () ((3 6)))")
	made(t, "(a ...) ((b ...) ...)", "((a (b a) ...) ...)", "(1 2 3) ((4 5) () (6))", "((1 (4 1) (5 1)) (2) (3 (6 3)))")
	made(t, "(a ...) (((b ...) ...) ...)", "((((a b) ...) ...) ...)", "(1 2) (((3) (4 5)) ((6)))", "((((1 3)) ((1 4) (1 5))) (((2 6))))")
	made(t, "(a ...) ((b ...) ...) (((c ...) ...) ...)", "((((a b c) ...) ...) ...)", "(1 2) ((3 4) (5)) (((6) (7 8)) ((9)))", "((((1 3 6)) ((1 4 7) (1 4 8))) (((2 5 9))))")
	made(t, "((a b ...) ...)", "(((a b) ...) ...)", "((1 2 3) (4) (5 6))", "(((1 2) (1 3)) () ((5 6)))")
	unlike(t, "(a ...) ((b ...) ...)", "(((a b) ...) ...)", "(1 2) ((4 5) () (6))")
	unlike(t, "(a ...) ((b ...) ...)", "(((a b) ...) ...)", "(1 2) ((3 4))") // not by the inner ones
}

func TestUnlikeLengths(t *testing.T) {
	for _, use := range []string{"(1) ()", "() (1)", "(1 2) (3)", "(1) (2 3)", "(1 2 3) (4 5)", "(1 2 3 4 5 6 7 8) (1 2 3 4 5 6 7)"} {
		unlike(t, "(a ...) (b ...)", "((a b) ...)", use)
		unlike(t, "(b ...) (a ...)", "((a b) ...)", use)
		unlike(t, "(a ...) (b ...)", "((a . b) ...)", use)
		unlike(t, "(a ...) (b ...)", "((x (a) (y b)) ... z)", use)
		unlike(t, "((a ...) (b ...)) ...", "(((a b) ...) ...)", "("+use+")")
		unlike(t, "((a ...) (b ...)) ...", "(((a b) ...) ...)", "((1) (2)) (() ()) ("+use+")")
		unlike(t, "(a ...) (b ...)", "(a ... b ... (a b) ...)", use)
		made(t, "(a ...) (b ...)", "(a ...)", use, "("+inside(use)+")")
	}
	for _, use := range []string{"(1 2) (3 4) (5)", "(1 2) (3) (4 5)", "(1) (2 3) (4 5)", "() () (1)", "(1) () ()"} {
		unlike(t, "(a ...) (b ...) (c ...)", "((a b c) ...)", use)
		unlike(t, "(c ...) (a ...) (b ...)", "((a b c a b c) ...)", use)
	}
	unlike(t, "((a ...) (b ...)) ...", "(((a b) ...) ...)", "((1) ()) ((2) (3)) (() ())") // the first ones, though others are alike behind them
	unlike(t, "((a ...) (b ...)) ...", "(x ((a b) ...) ... y)", "((1) (2)) (() (3)) (() ())")
	unlike(t, "((a ...) ...) ((b ...) ...)", "(((a b) ...) ...)", "((1)) ((2) (3))")
	unlike(t, "((a ...) ...) ((b ...) ...)", "(((a b) ...) ...)", "((1) (2 3)) ((4) (5))")
	unlike(t, "((a ...) ...) ((b ...) ...)", "((a ... b ...) ...)", "((1)) ((2) (3))")
	made(t, "((a ...) ...) ((b ...) ...)", "(((a b) ...) ...)", "() ()", "()") // none is made: nothing in it is met
	made(t, "(c ...) (a ...) (b ...)", "(c ... ((a b) ...))", "() (1) (2)", "(((1 2)))")
	unlike(t, "(a ...) (b ...) (c ...)", "(c ... ((a b) ...))", "() (1) ()")
}

// inside is what stands in the first list of a text.
func inside(text string) string {
	for i := range text {
		if text[i] == ')' {
			return text[1:i]
		}
	}
	return ""
}

func TestTailsThatAreMade(t *testing.T) {
	for _, c := range []struct{ tail, want string }{{"()", "(x)"}, {"(1)", "(x 1)"}, {"(1 (2))", "(x 1 (2))"}, {"(1 . 2)", "(x 1 . 2)"}, {"(1 2 . #(3))", "(x 1 2 . #(3))"}, {"1", "(x . 1)"}, {"\"\"", "(x . \"\")"}, {"#(1)", "(x . #(1))"}, {"b", "(x . b)"}} {
		made(t, "a", "(x . a)", c.tail, c.want)
		made(t, "a", "((x . a) y)", c.tail, "("+c.want+" y)")
		made(t, "a", "(y (x . a) . #())", c.tail, "(y "+c.want+" . #())")
		made(t, "a", "(z x . a)", c.tail, "(z "+c.want[1:])
		made(t, "a ...", "((x . a) ...)", c.tail+" "+c.tail, "("+c.want+" "+c.want+")")
		made(t, "a (b ...)", "(b ... x . a)", c.tail+" (1 2)", "(1 2 "+c.want[1:])
		made(t, "a (b ...)", "(x b ... . a)", c.tail+" ()", c.want)
		made(t, "a", "(a . a)", c.tail, "("+c.tail+" "+c.want[2:])
	}
	made(t, "a (b ...)", "(b ... . a)", "1 (2 3)", "(2 3 . 1)")
	made(t, "a (b ...)", "(b ... . a)", "(1) (2 3)", "(2 3 1)")
	made(t, "a (b ...)", "(b ... . a)", "(1) ()", "(1)")
	made(t, "a (b ...)", "(b ... . a)", "(1 . 2) ()", "(1 . 2)")
	made(t, "a (b ...)", "((b . a) ...)", "(1 . 2) (3 (4))", "((3 1 . 2) ((4) 1 . 2))")
	made(t, "a ...", "((x . #(a)) a ... . 1)", "2", "((x . #(a)) 2 . 1)")
	expands(t, ruled("(_ a . b)", "(a . b)")+"(m x) (m x 1) (m x . 1) (m x 1 . 2) (m quote (m)) (m (m y) (m z))", "(x) (x 1) (x . 1) (x 1 . 2) '(m) ((y) (z))")
}

// At most 6000 NODES are made. That so many aren't RIGHT is met behind an Item that can't be made: so what is made ahead of that tells whether they were too many.

// unmade is an Item that is met, but can't be made, in a RULE with these parts, where the use has these.
const (
	unmade      = "(u v) ..."
	unmadeParts = "(u ...) (v ...)"
)

// bounded complains, if it isn't at 6000 NODES that a TEMPLATE makes too many ahead of unmade. There a, of that many NODES, stands so often, b once, and beside them there are so many others; b is as great as it takes to come to 6000, or to less or more.
func bounded(t *testing.T, template string, nodes int, times int, others int) {
	t.Helper()
	m := read(t, ruled("(_ a b "+unmadeParts+")", template))
	unlike := []api.Datum{list(sym("z")), list()}
	for _, c := range []struct {
		more int
		e    api.Errno
	}{{-100, api.ErrMatch}, {-1, api.ErrMatch}, {0, api.ErrMatch}, {1, api.ErrSteps}, {2, api.ErrSteps}, {100, api.ErrSteps}} {
		b := 6000 - others - times*nodes + c.more
		for _, l := range []api.Datum{flat("z", b), dot(many(b-1, sym("z"))...), list(vec(many(100, list())...), flat("z", b-102))} {
			use := list(append([]api.Datum{sym("m"), flat("z", nodes), l}, unlike...)...)
			hasFault(t, append(m, use), c.e, 1)
			hasFault(t, append(m, sym("b"), list(sym("c"), use)), c.e, 2)
		}
	}
}

func TestNodesThatATemplateMakes(t *testing.T) {
	bounded(t, "(a a a a b "+unmade+")", 1350, 4, 1)
	bounded(t, "(a a a a b ("+unmade+"))", 1350, 4, 2)
	bounded(t, "(a a a a b ((("+unmade+"))))", 1350, 4, 4)
	bounded(t, "(a a a a b (("+unmade+") . a))", 1350, 4, 3)
	bounded(t, "((a) (a) ((a)) (a) b "+unmade+")", 1350, 4, 6)
	bounded(t, "(x a a () a a (y \"z\" 1) b "+unmade+")", 1350, 4, 7)
	bounded(t, "(#(x (y) #()) a a #() a a b "+unmade+")", 1350, 4, 7)
	bounded(t, "((a a a a . b) "+unmade+")", 1350, 4, 2)
	bounded(t, "((x a . a) (a a . b) "+unmade+")", 1350, 4, 4)
	bounded(t, "(a a a b a "+unmade+" . a)", 1350, 4, 1)
	bounded(t, "(b a a a a "+unmade+" a a . b)", 1350, 4, 1)
}

func TestNodesThatEllipsesMake(t *testing.T) {
	m := read(t, ruled("(_ (a ...) ((b ...) ...) c (u ...) (v ...))", "(a ... (a x) ... ((b ...) ...) c c c c (u v) ...)"))
	for _, n := range []int{0, 1, 2, 10, 100} {
		for _, k := range []int{0, 1, 7} {
			made := 1 + n + 3*n + 1 + n*(1+k) // ahead of the c
			for _, more := range []int{-4, 0, 1, 2, 3, 4} {
				c := (6000-made)/4 + more
				e := api.ErrMatch
				if made+4*c > 6000 {
					e = api.ErrSteps
				}
				use := list(sym("m"), list(many(n, sym("z"))...), list(many(n, list(many(k, sym("z"))...))...), flat("z", c), list(), list(sym("z")))
				hasFault(t, append(m, use), e, 1)
			}
		}
	}
}

func TestEachStepMakesNodesOfItsOwn(t *testing.T) {
	m := read(t, defined("drop", "((_ a . b) (keep a . b))")+defined("keep", "((_ a b . c) (drop b . c))", "((_ a) 1)"))
	use := list(append([]api.Datum{sym("drop")}, many(20, flat("z", 140))...)...)
	comesOut(t, append(m, use), one(t, "1"))
}

func TestTooManyNodesAtTheEnd(t *testing.T) {
	m := read(t, ruled("(_ a)", "(drop a a)")+defined("drop", "((_ . a) 1)"))
	comesOut(t, append(m, list(sym("m"), flat("z", 1499))), one(t, "1"))
	hasFault(t, append(m, list(sym("m"), flat("z", 1500))), api.ErrSteps, 2)
	hasFault(t, append(m, list(sym("m"), flat("z", 2998))), api.ErrSteps, 2)
	many := read(t, ruled("(_ a ...)", "(a ... a ... a ... a ... a ... a ... a ... a ...)"))
	hasFault(t, append(many, flat("m", 2999)), api.ErrSteps, 1)
}
