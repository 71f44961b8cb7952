package macro_test

import (
	"strings"
	"testing"

	"distaff/api"
)

// P7.2

// meant complains, if the parts of a pattern don't fit those of a use so that the TEMPLATE makes this.
func meant(t *testing.T, parts, use, template, want string) {
	t.Helper()
	expands(t, ruled("(_ "+parts+")", "(quote "+template+")")+"(m "+use+")", "(quote "+want+")")
	expands(t, ruled("(_ x ("+parts+") y)", "(quote "+template+")")+"(m 1 ("+use+") 2)", "(quote "+want+")")
	expands(t, ruled("(_ x ("+parts+") . y)", "(quote "+template+")")+"(m 1 ("+use+"))", "(quote "+want+")")
}

// fitting complains, if the parts of a pattern fit one of these uses that they can't fit, or don't one that they can.
func fitting(t *testing.T, parts string, can []string, cannot ...string) {
	t.Helper()
	m := "(define-syntax m (syntax-rules (lit else) ((_ " + parts + ") yes) ((_ . other) no)))"
	within := "(define-syntax m (syntax-rules (lit else) ((_ x ((" + parts + ") y)) yes) ((_ . other) no)))"
	for _, use := range can {
		expands(t, m+"(m "+use+")", "yes")
		expands(t, within+"(m 1 (("+use+") 2))", "yes")
	}
	for _, use := range cannot {
		expands(t, m+"(m "+use+")", "no")
		if !strings.HasPrefix(use, ".") {
			expands(t, within+"(m 1 (("+use+") 2))", "no")
		}
		fails(t, ruled("(_ "+parts+")", "yes")+"(m "+use+")", api.ErrMatch, 1)
	}
}

// anyData is data of all kinds, no two of them the same.
func anyData() []string {
	return strings.Split("1, 0, -1, 1.0, 0.0, -0.0, 0.5, +inf.0, -inf.0, +nan.0, 18446744073709551616, 4294967296, #t, #f, #\\a, #\\A, #\\1, \"\", \"a\", \"A\", \"1\", a, A, ab, lit, else, m, quote, ..., _, (), (a), (1), (a b), ((a)), (a . b), (a b . c), #(), #(a), #(1), #(1.0), #(a b), #(#(a)), #((a)), #((a . b)), (quote a), #(...)", ", ")
}

func TestVariablesAndUnderlineFitEverything(t *testing.T) {
	for _, d := range anyData() {
		meant(t, "a", d, "a", d)
		meant(t, "a b", d+" 1", "(b a)", "(1 "+d+")")
		meant(t, "a ...", d+" "+d, "(a ...)", "("+d+" "+d+")")
		meant(t, "(a)", "("+d+")", "#(a)", "#(a)")
		fitting(t, "_", []string{d}, "", d+" "+d)
		fitting(t, "_ 1 _", []string{d + " 1 2", "2 1 " + d}, d+" 2 3", d)
		fitting(t, "(_)", []string{"(" + d + ")"}, "()")
		meant(t, "_ a _ . b", d+" 1 "+d+" 2", "(a . b)", "(1 2)")
	}
	meant(t, "_", "1", "_", "_") // it is no variable
	meant(t, "_ a", "1 2", "(_ a _)", "(_ 2 _)")
}

func TestOthersFitTheSame(t *testing.T) {
	for _, p := range anyData() {
		if !strings.ContainsAny(p[:1], "0123456789+-#\"") { // a symbol or a list
			continue
		}
		for _, d := range anyData() {
			if d == p {
				fitting(t, p, []string{d})
				fitting(t, "(a ("+p+") . b)", []string{"(1 (" + d + "))"})
			} else {
				fitting(t, p, nil, d)
				fitting(t, "(a ("+p+") . b)", nil, "(1 ("+d+"))")
			}
		}
	}
	fitting(t, "1", []string{"1", "01", "+1"}, "1.0", "\"1\"", "-1", "2")
	fitting(t, "1.5", []string{"1.5", "15e-1", "1.50"}, "1.25", "-1.5", "1")
	fitting(t, "0.0", []string{"0.0", "0e5"}, "-0.0", "0")
	fitting(t, "+nan.0", []string{"+nan.0"}, "+inf.0", "0.0")
	fitting(t, "#(1 (a . 2) \"b\" #\\c)", []string{"#(1 (a . 2) \"b\" #\\c)"}, "#(1 (a . 2) \"b\" #\\d)", "#(1 (b . 2) \"b\" #\\c)", "#(1 (a 2) \"b\" #\\c)", "#(1.0 (a . 2) \"b\" #\\c)", "#(1 (a . 2) \"b\" #\\c 1)", "(1 (a . 2) \"b\" #\\c)")
	fitting(t, "#(a _ ... lit)", []string{"#(a _ ... lit)"}, "#(1 _ ... lit)", "#(a 1 ... lit)", "#(a)", "#(a _ _ lit)", "#(a lit)")
}

func TestLiteralsFitTheSameSymbol(t *testing.T) {
	fitting(t, "lit", []string{"lit"}, "else", "a", "Lit", "li", "litt", "1", "\"lit\"", "(lit)", "#(lit)", "()", "", "lit lit", "#\\l")
	fitting(t, "lit a else", []string{"lit 1 else", "lit lit else"}, "else 1 lit", "lit 1 2", "1 2 else")
	fitting(t, "lit ...", []string{"", "lit", "lit lit lit"}, "lit else", "a", "lit a lit", "lit . lit")
	fitting(t, "(lit . a) lit", []string{"(lit 1) lit", "(lit) lit"}, "(1) lit", "(lit 1) 1")
	meant(t, "a lit b", "1 lit 2", "(b lit a else)", "(2 lit 1 else)")
	for _, name := range []string{"m", "quote", "define-syntax", "syntax-rules", "else", "=>", "lambda"} { // whatever it is else
		text := "(define-syntax m (syntax-rules (" + name + ") ((_ " + name + " a) '(yes " + name + " a)) ((_ b a) '(no b a)) ((_ . " + name + ") 'tail)))"
		expands(t, text+"(m "+name+" 1) (m x 1) (m (m "+name+" 1) 2) (m . "+name+")", "'(yes "+name+" 1) '(no x 1) '(no (m "+name+" 1) 2) 'tail")
	}
	expands(t, defined("x", "((_) 1)")+"(define-syntax m (syntax-rules (x) ((_ x) 2) ((_ y) (other y)))) (m x) (m (x))", "2 (other 1)")
	expands(t, "(define-syntax m (syntax-rules (a b) ((_ a b c) (a b c)) ((_ c b a) '(c b a)))) (m a b 1) (m 1 b a)", "(a b 1) '(1 b a)")
	expands(t, "(define-syntax m (syntax-rules (a a) ((_ a) 1)))(m a)", "1")
}

func TestListsFitAsManyItems(t *testing.T) {
	fitting(t, "", []string{""}, "1", "()", ". 1")
	fitting(t, "a", []string{"1", "()"}, "", "1 2", ". 1", "1 . 2")
	fitting(t, "a b c", []string{"1 2 3"}, "", "1 2", "1 2 3 4", "1 2 . 3", "1 2 3 . 4")
	fitting(t, "()", []string{"()"}, "1", "(1)", "#()", "\"\"", "#f", "")
	fitting(t, "(a)", []string{"(1)", "(())"}, "1", "()", "(1 2)", "#(1)", "(1 . 2)")
	fitting(t, "((a) (b (c)))", []string{"((1) (2 (3)))"}, "((1) (2 3))", "((1) (2 (3) 4))", "(1 (2 (3)))", "((1) 2 (3))", "((1) . 2)", "((1) (2 . 3))")
	meant(t, "a (b (c d) e) f", "1 (2 (3 4) 5) 6", "(f e d c b a)", "(6 5 4 3 2 1)")
}

func TestItemsWithEllipses(t *testing.T) {
	meant(t, "a ...", "", "(a ...)", "()")
	meant(t, "a ...", "1", "(a ...)", "(1)")
	meant(t, "a ...", "1 2 3", "(a ...)", "(1 2 3)")
	meant(t, "a b ...", "1", "(a (b ...))", "(1 ())")
	meant(t, "a b ...", "1 2", "(a (b ...))", "(1 (2))")
	meant(t, "a b ...", "1 2 3 4", "(a (b ...))", "(1 (2 3 4))")
	meant(t, "a ... b", "1", "((a ...) b)", "(() 1)")
	meant(t, "a ... b", "1 2", "((a ...) b)", "((1) 2)")
	meant(t, "a ... b", "1 2 3 4", "((a ...) b)", "((1 2 3) 4)")
	meant(t, "a b c ... d e", "1 2 3 4", "(a b (c ...) d e)", "(1 2 () 3 4)")
	meant(t, "a b c ... d e", "1 2 3 4 5", "(a b (c ...) d e)", "(1 2 (3) 4 5)")
	meant(t, "a b c ... d e", "1 2 3 4 5 6 7", "(a b (c ...) d e)", "(1 2 (3 4 5) 6 7)")
	fitting(t, "a b ...", []string{"1", "1 2", "1 2 3"}, "", ". 1", "1 . 2", "1 2 . 3")
	fitting(t, "a ... b", []string{"1", "1 2", "1 2 3"}, "", ". 1", "1 . 2")
	fitting(t, "a ...", []string{"", "()", "1 2"}, ". 1", "1 . 2")
	fitting(t, "a b c ... d e", []string{"1 2 3 4", "1 2 3 4 5 6"}, "", "1", "1 2", "1 2 3", "1 2 3 . 4", "1 2 3 4 . 5")
	fitting(t, "1 ... 2", []string{"2", "1 2", "1 1 1 2"}, "", "1", "1 1", "2 2", "1 3 2", "1 2 1", "2 1 2")
	fitting(t, "1 2 ... 1 3", []string{"1 1 3", "1 2 1 3", "1 2 2 1 3"}, "1 3", "1 2 3", "1 2 1 2 3", "2 2 1 3", "1 1 1 3", "1 2 1 1")
	fitting(t, "(a b) ...", []string{"", "(1 2)", "(1 2) (3 4)"}, "(1)", "(1 2) (3)", "(1 2) 3", "(1 2) (3 4 5) (6 7)", "((1 2))")
	fitting(t, "_ ... 1", []string{"1", "2 1", "(3) 2 1"}, "", "2", "1 2")
	fitting(t, "#(1) ...", []string{"", "#(1) #(1)"}, "#(1) #(2)", "(1)")
	meant(t, "(a b) ... c", "(1 2) (3 4) 5", "((a ...) (b ...) c)", "((1 3) (2 4) 5)")
	meant(t, "(a . b) ...", "(1) (2 3) (4 . 5)", "((b a) ...)", "((() 1) ((3) 2) (5 4))")
	meant(t, "((a) (b _)) ...", "((1) (2 3)) ((4) (5 6))", "(a ... b ...)", "(1 4 2 5)")
}

func TestEllipsesWithinEllipses(t *testing.T) {
	meant(t, "(a ...) ...", "", "((a ...) ...)", "()")
	meant(t, "(a ...) ...", "()", "((a ...) ...)", "(())")
	meant(t, "(a ...) ...", "() (1) (2 3) ()", "((a ...) ...)", "(() (1) (2 3) ())")
	meant(t, "(a b ...) ...", "(1) (2 3) (4 5 6)", "((a ...) ((b ...) ...))", "((1 2 4) (() (3) (5 6)))")
	meant(t, "(a ... b) ...", "(1) (2 3) (4 5 6)", "((b ...) ((a ...) ...))", "((1 3 6) (() (2) (4 5)))")
	meant(t, "((a ...) ...) ...", "() (()) ((1) (2 3)) (() ())", "(((a ...) ...) ...)", "(() (()) ((1) (2 3)) (() ()))")
	meant(t, "((a (b c ...) ...) ...)", "((1 (2) (3 4)) (5) (6 (7 8 9)))", "((a (b ...) ((c ...) ...)) ...)", "((1 (2 3) (() (4))) (5 () ()) (6 (7) ((8 9))))")
	meant(t, "c ((((a ...) ... b) ...) ...)", "0 ((((1) () 2) (3)) () (((4 5) 6)))", "(c ((((a ...) ...) ...) ...) ((b ...) ...))", "(0 ((((1) ()) ()) () (((4 5)))) ((2 3) () (6)))")
	fitting(t, "(a ...) ...", []string{"", "() ()", "(1 2) ()"}, "1", "() 1", "(1 . 2)", "() (1 . 2)")
	fitting(t, "((1 ...) ... 2) ...", []string{"", "(2)", "((1) () 2) ((1 1) 2)"}, "()", "((1))", "((2) 2)", "((1) 1 2)", "(2) ((1) 3)")
}

func TestListsWithATail(t *testing.T) {
	for _, c := range []struct{ parts, use, want string }{
		{"a . b", "1", "(1 ())"}, {"a . b", "1 2", "(1 (2))"}, {"a . b", "1 2 3", "(1 (2 3))"}, {"a . b", "1 . 2", "(1 2)"}, {"a . b", "1 2 . 3", "(1 (2 . 3))"}, {"a . b", "1 2 3 . 4", "(1 (2 3 . 4))"}, {"a . b", "1 . #(2)", "(1 #(2))"},
		{"a x . b", "1 2", "(1 ())"}, {"a x . b", "1 2 3", "(1 (3))"}, {"a x . b", "1 2 . 3", "(1 3)"}, {"a x . b", "1 2 3 . 4", "(1 (3 . 4))"},
		{"(a . z) . b", "(1)", "(1 ())"}, {"(a . z) . b", "(1 2) (3)", "(1 ((3)))"}, {"(a . z) . b", "(1 . 2) . 3", "(1 3)"},
	} {
		expands(t, ruled("(_ "+c.parts+")", "'(a b)")+"(m "+c.use+")", "'"+c.want)
		expands(t, ruled("(_ w ("+c.parts+") v)", "'(a b)")+"(m 1 ("+c.use+") 2)", "'"+c.want)
		expands(t, ruled("(_ ("+c.parts+") . v)", "'(a b)")+"(m ("+c.use+") . 3)", "'"+c.want)
	}
	expands(t, ruled("(_ . a)", "'(is a)")+"(m) (m 1) (m 1 2) (m . 3) (m 1 . 2) (m . #()) (m (1)) (m ())", "'(is ()) '(is (1)) '(is (1 2)) '(is 3) '(is (1 . 2)) '(is #()) '(is ((1))) '(is (()))")
	fitting(t, "a . b", []string{"1", "1 2", "1 . 2", "1 2 . 3"}, "", ". 1")
	fitting(t, "a b . c", []string{"1 2", "1 2 3", "1 2 . 3", "1 2 3 . 4"}, "", "1", "1 . 2", ". 1")
	fitting(t, "a b c . d", []string{"1 2 3", "1 2 3 . 4"}, "1 2", "1 2 . 3", "1")
	fitting(t, "(a . b)", []string{"(1)", "(1 2)", "(1 . 2)"}, "()", "1", "#(1)", "#(1 2)", "\"ab\"", "")
	fitting(t, "1 . b", []string{"1", "1 2", "1 . 2"}, "2", "2 . 1", "")
	fitting(t, "a (2) . b", []string{"1 (2)", "1 (2) . 3"}, "1 (3)", "1 (3) . 3", "1 2")
}

func TestTailsThatAreNoVariable(t *testing.T) {
	fitting(t, "a . _", []string{"1", "1 2", "1 . 2", "1 2 . 3"}, "", ". 1")
	fitting(t, "a . 2", []string{"1 . 2"}, "1", "1 2", "1 . 3", "1 2 . 2", "1 (2)", "1 . 2.0")
	fitting(t, "a . #()", []string{"1 . #()"}, "1", "1 #()", "1 . #(1)", "1 ()")
	fitting(t, "a . \"b\"", []string{"1 . \"b\""}, "1", "1 \"b\"", "1 . b")
	fitting(t, "a . lit", []string{"1 . lit"}, "1", "1 lit", "1 . else", "1 2 . lit")
	fitting(t, "a . #t", []string{"1 . #t"}, "1", "1 . #f", "1 #t")
	fitting(t, "a . #\\b", []string{"1 . #\\b"}, "1", "1 . #\\c", "1 . b")
	expands(t, ruled("(_ . lit)", "1")+"(m . lit)", "1")
	fails(t, ruled("(_ . lit)", "1")+"(m lit)", api.ErrMatch, 1)
	fails(t, ruled("(_ . 1)", "1")+"(m)", api.ErrMatch, 1)
	expands(t, ruled("(_ . _)", "1")+"(m) (m 1) (m 1 . 2) (m . 3)", "1 1 1 1")
}
