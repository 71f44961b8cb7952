package macro_test

import (
	"testing"

	"distaff/api"
)

// The section Examples, word for word.
func TestExamples(t *testing.T) {
	expands(t, "(define-syntax swap (syntax-rules () ((_ (a b) ...) (list (b a) ...)))) (swap (1 2) (3 4))", "(list (2 1) (4 3))")
}

// P7.1, but for its limits.

func TestWithoutMacros(t *testing.T) {
	comesOut(t, nil)
	comesOut(t, []api.Datum{})
	for _, text := range []string{"a", "1 2.5 #t #\\a \"b\" c", "() #() (()) #(())", "(a b) (a . b) (a b . c)", "(quote a) 'a `(a ,b ,@c)", "(a (b (c . d) #(e (f))) . \"g\")", "(define (f x . y) (if x y 1))", "... _ (... _) (_ ...)", "syntax-rules (syntax-rules () ((_) 1))"} {
		expands(t, text, text)
	}
}

func TestFormsInOrder(t *testing.T) {
	one := defined("m", "((_) 1)", "((_ a) (2 a))")
	expands(t, one, "")
	expands(t, one+"(m)", "1")
	expands(t, one+"a (m) b (m c) (m) d", "a 1 b (2 c) 1 d")
	expands(t, "a "+one+"b", "a b")
	expands(t, "(m) (m a) (n)"+one+"(m) (m a) (n)"+defined("n", "((_) (m))")+"(n)", "(m) (m a) (n) 1 (2 a) (n) 1") // defined behind its use
	expands(t, "(x (m))"+one+"(x (m))", "(x (m)) (x 1)")
}

func TestMacrosDefinedTwice(t *testing.T) {
	expands(t, defined("m", "((_) 1)", "((_ a) 2)")+"(m) (m a)"+defined("m", "((_) 3)")+"(m)"+defined("m", "((_) 4)")+"(m)", "1 2 3 4")
	fails(t, defined("m", "((_ a) 1)")+"(m 1)"+defined("m", "((_) 2)")+"(m) (m 1)", api.ErrMatch, 4) // the elder RULES are gone
	expands(t, defined("n", "((_) (m))")+"(n)"+defined("m", "((_) 1)")+"(n)"+defined("m", "((_) 2)")+"(n)", "(m) 1 2")
	expands(t, defined("m", "((_ a) (m a a))")+defined("m", "((_ a) (n a a))")+"(m 1)", "(n 1 1)")
	expands(t, defined("m", "((_) 1)")+defined("M", "((_) 2)")+"(m) (M)", "1 2")
}

func TestTheFirstRuleThatFits(t *testing.T) {
	expands(t, defined("m", "((_) 0)", "((_ 1) one)", "((_ a) a)", "((_ 2) two)", "((_ a b) (b a))", "((_ . a) a)")+"(m) (m 1) (m 2) (m 1 2) (m 1 2 3) (m . 4)", "0 one 2 (2 1) (1 2 3) 4")
	expands(t, defined("m", "((_ a b ...) (first a b ...))", "((_ a ...) (second a ...))")+"(m) (m 1)", "(second) (first 1)")
	expands(t, defined("m", "((_ a (a1)) (x a a1))", "((_ b c) (y b c a a1))")+"(m 1 2) (m 1 (2))", "(y 1 2 a a1) (x 1 2)") // what a RULE has met that doesn't fit is no matter
}

func TestNoRuleFits(t *testing.T) {
	m := defined("m", "((_) 1)", "((_ a (b)) 2)")
	for _, use := range []string{"(m 1)", "(m 1 2)", "(m 1 ())", "(m 1 (2) 3)", "(m . 1)", "(m 1 (2) . 3)", "(m 1 #(2))", "(m (m))"} {
		fails(t, m+use, api.ErrMatch, 1)
		fails(t, m+"(m) "+use, api.ErrMatch, 2)
		fails(t, m+"(m) a (x (y . b) "+use+" (m))", api.ErrMatch, 3)
		expands(t, m+"(m) (quote "+use+") #("+use+")", "1 (quote "+use+") #("+use+")")
	}
}

func TestUsesMadeByUses(t *testing.T) {
	three := defined("m", "((_ a) (n a 1))") + defined("n", "((_ a b) (o b a))") + defined("o", "((_ . a) (list . a))")
	expands(t, three+"(m 5)", "(list 1 5)")
	expands(t, three+"(x (m 5) (n (m 6) 7))", "(x (list 1 5) (list 7 (list 1 6)))")
	expands(t, defined("o", "((_ . a) (list . a))")+defined("m", "((_ a) (x (o a) (y . (o a))))")+"(m (o 1))", "(x (list (list 1)) (y o (list 1)))")
	expands(t, defined("rev", "((_ () b) (quote b))", "((_ (a . c) b) (rev c (a . b)))")+"(rev (1 2 3) ())", "(quote (3 2 1))")
	expands(t, defined("m", "((_ a b) (a b))", "((_ a) (got a))")+"(m m (1 2)) (m quote (m 1)) (m m m)", "(got (1 2)) (quote (m 1)) (got m)")
}

func TestTheHeadsPlace(t *testing.T) {
	n := defined("n", "((_ . a) 1)")
	expands(t, n+defined("m", "((_) n)")+"((m) 2) ((m)) (((m) 3))", "(n 2) (n) ((n 3))") // what the first Item becomes makes no use of its list
	expands(t, n+defined("m", "((_) quote)")+"((m) (n))", "(quote 1)")
	expands(t, n+defined("m", "((_) define-syntax)")+"((m) n (n)) (n)", "(define-syntax n 1) 1")
	expands(t, defined("m", "((_ a) (a 2))")+defined("f", "((_ b) (f1 b))")+"(m f) (m g) (m quote)", "(f1 2) (g 2) (quote 2)")
	expands(t, n+"((n) (n)) ((n n) n)", "(1 1) (1 n)")
}

func TestWhatIsNoUse(t *testing.T) {
	m := defined("m", "((_ . a) 1)")
	for _, text := range []string{"m", "(a m)", "(a . m)", "(a m . m)", "(\"m\")", "(#(m))", "(1 m)", "(#t m)", "(() m)", "(M)", "(mm)", "(m1 m)", "#(m)", "#((m))", "(a #((m) m))", "(a . #((m)))", "(quote m)"} {
		expands(t, m+text, text)
	}
	expands(t, m+"((m) m) ((m m) . m)", "(1 m) (1 . m)")
}

func TestEachItemIsExpanded(t *testing.T) {
	m := defined("m", "((_ a ...) (n a ...))")
	expands(t, m+"(a (m) (b (m 1) c) . d)", "(a (n) (b (n 1) c) . d)")
	expands(t, m+"(((m)) ((((m 1) x) . y)))", "(((n)) ((((n 1) x) . y)))")
	expands(t, m+"(lambda (m x) (m))", "(lambda (n x) (n))") // whatever the list is for
	expands(t, m+"(let ((m (m 1))) (m 2) (m 3))", "(let ((n (n 1))) (n 2) (n 3))")
	expands(t, m+"(m (m) (m (m 1)))", "(n (n) (n (n 1)))") // what is handed to a use is EXPANDED behind it
	expands(t, m+"(a (m)) (b . #((m))) (m)", "(a (n)) (b . #((m))) (n)")
}

func TestArgumentsAreNotExpandedFirst(t *testing.T) {
	expands(t, defined("m", "((_ (a b)) (two a b))", "((_ a) (one a))")+defined("n", "((_ a) 3)")+"(m (n 1)) (m n) (m ((n 1)))", "(two n 1) (one n) (one (3))")
	expands(t, defined("m", "((_ (quote a)) (got a))", "((_ a) (other a))")+defined("n", "((_) 'x)")+"(m 'x) (m (n))", "(got x) (other 'x)")
	expands(t, defined("first", "((_ a . b) a)")+defined("bad", "((_) 1)")+"(first 1 (bad 2))", "1") // what isn't taken is never EXPANDED
}

func TestQuote(t *testing.T) {
	m := defined("m", "((_ . a) (got . a))")
	expands(t, m+"(quote (m)) '((m) (m 1)) (quote) (quote (m) (m)) (quote . (m))", "(quote (m)) '((m) (m 1)) (quote) (quote (m) (m)) (quote m)")
	expands(t, m+"(a '(m) (m)) '(a . (m))", "(a '(m) (got)) '(a m)")
	expands(t, m+"(m '(m) (m)) (m (quote . x))", "(got '(m) (got)) (got (quote . x))")
	expands(t, m+"(quote . a) (quote (m) . a) (quote (m) (m 1) . 2)", "(quote . a) (quote (got) . a) (quote (got) (got 1) . 2)") // with a tail it is none of these lists
	expands(t, m+"(a quote (m)) (quasiquote (m)) `(a ,(m)) ((quote) (m)) ((quote (m)) (m)) (\"quote\" (m))", "(a quote (got)) (quasiquote (got)) `(a ,(got)) ((quote) (got)) ((quote (m)) (got)) (\"quote\" (got))")
	expands(t, m+defined("q", "((_ a) (quote a))", "((_ a b) (x 'a b))")+"(q (m)) (q (m) (m)) (q (q (m)))", "'(m) (x '(m) (got)) '(q (m))")
}

func TestQuoteAsAMacro(t *testing.T) {
	quote := defined("quote", "((_ a) (constant a))", "((_ a . b) b)")
	expands(t, "'a"+quote+"'a (quote b) ''c (quote d . e) (quote d e)", "'a (constant a) (constant b) (constant (constant c)) e (e)")
	expands(t, quote+defined("m", "((_) 1)")+"'(m) (a '(m))", "(constant 1) (a (constant 1))")
	fails(t, quote+"(quote)", api.ErrMatch, 1)
	expands(t, quote+"'x"+defined("quote", "((_ a) (again a))")+"'x", "(constant x) (again x)")
}

func TestUsesWithATail(t *testing.T) {
	m := defined("m", "((_) none)", "((_ a) (one a))", "((_ a . b) (more a b))", "((_ . a) (all a))")
	expands(t, m+"(m . 1) (m 1 . 2) (m 1 2 . 3) (m 1 2) (m . (1)) (m . #(1))", "(all 1) (more 1 2) (more 1 (2 . 3)) (more 1 (2)) (one 1) (all #(1))")
	expands(t, m+"(a . (m)) (a . (m 1)) (a (m . 1) . 2) (a . (m . 1))", "(a m) (a m 1) (a (all 1) . 2) (a m . 1)") // the reader makes one list of these
	expands(t, m+"(m (m . 1) . 2)", "(more (all 1) 2)")
	fails(t, defined("m", "((_) 1)", "((_ a) 2)")+"(m 1 . 2)", api.ErrMatch, 1)
}

// Tails, where something is EXPANDED within their lists.
func TestTailsOfWhatIsExpanded(t *testing.T) {
	m := defined("m", "((_ . a) (b . a))")
	expands(t, m+"(m) (m . 1) (m 1) (m 1 . 2)", "(b) (b . 1) (b 1) (b 1 . 2)")
	expands(t, m+"((m . 1) . 2) ((m 1 . 2) (m) . m)", "((b . 1) . 2) ((b 1 . 2) (b) . m)")
	expands(t, m+"(m . (m)) (m . (m 1)) (m (m) . (m))", "(b m) (b m 1) (b (b) m)")
	expands(t, m+"(a (m) . #((m)))", "(a (b) . #((m)))")
	expands(t, defined("m", "((_ a) (x . a))")+"(m (m (1))) (m (m 2)) (m (quote (m 1)))", "(x m (1)) (x m 2) (x quote (x . 1))")
}

// Where two errors are in a program, the first one that is met counts.
func TestTheFirstErrorCounts(t *testing.T) {
	m := defined("m", "((_) 1)", "((_ (a ...) (b ...)) ((a b) ...))") + defined("loop", "((_) (loop))")
	for _, c := range []struct {
		form string
		e    api.Errno
	}{{"(define-syntax n 1)", api.ErrMacro}, {"(m 1)", api.ErrMatch}, {"(m (1) ())", api.ErrMatch}, {"(loop)", api.ErrSteps}} {
		fails(t, m+c.form, c.e, 2)
		for _, other := range []string{"(define-syntax n 1)", "(m 1)", "(loop)", "(m (1) ())"} {
			fails(t, m+c.form+other, c.e, 2)
			fails(t, m+"a (m) "+c.form+"b"+other, c.e, 4)
			if c.e != api.ErrMacro {
				fails(t, m+"(x "+c.form+" (y "+other+"))"+other, c.e, 2)
				fails(t, m+"((("+c.form+")) . y)"+other, c.e, 2)
			}
		}
	}
	fails(t, m+defined("n", "((_) (x (m 1) (loop)))", "((_ a) (x (loop) (m 1)))")+"(x (n))", api.ErrMatch, 3)
	fails(t, m+defined("n", "((_) (x (m 1) (loop)))", "((_ a) (x (loop) (m 1)))")+"(x (n 1))", api.ErrSteps, 3)
	fails(t, "(n 1)"+m+"(n 1) (m 1) (n 1)", api.ErrMatch, 4)
}
