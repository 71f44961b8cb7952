package macro_test

import (
	"strings"
	"testing"

	"distaff/api"
)

// The section Types, and ErrMacro.

// good is what can stand behind a DEFINITION's name.
const good = "(syntax-rules () ((_) 1))"

// canBe complains, if a text is no DEFINITION of m.
func canBe(t *testing.T, text string) {
	t.Helper()
	expands(t, text, "")
	expands(t, "a "+text+" b "+text, "a b")
}

// cannotBe complains, if a text that begins as a DEFINITION can be one, or must be one where it doesn't stand outermost.
func cannotBe(t *testing.T, text string) {
	t.Helper()
	fails(t, text, api.ErrMacro, 0)
	fails(t, "a (b) "+text+" c", api.ErrMacro, 2)
	fails(t, defined("n", "((_) 1)")+"(n) "+text+"(n 2)", api.ErrMacro, 2)
	expands(t, "(begin "+text+") (quote "+text+")", "(begin "+text+") (quote "+text+")")
}

// isNoPattern complains, if a text can be a PATTERN.
func isNoPattern(t *testing.T, pattern string) {
	t.Helper()
	cannotBe(t, ruled(pattern, "1"))
	cannotBe(t, defined("m", "((_) 1)", "("+pattern+" 1)"))
	cannotBe(t, defined("m", "("+pattern+" 1)", "((_) 1)"))
}

func TestDefinitionsItems(t *testing.T) {
	canBe(t, "(define-syntax m "+good+")")
	for _, text := range []string{
		"(define-syntax)", "(define-syntax m)", "(define-syntax " + good + ")", "(define-syntax m " + good + " 1)", "(define-syntax m " + good + " " + good + ")", "(define-syntax m n " + good + ")", "(define-syntax m ())", "(define-syntax () m)",
	} {
		cannotBe(t, text)
	}
}

func TestDefinitionsNames(t *testing.T) {
	for _, name := range []string{"a", "...", "_", "quote", "define-syntax", "syntax-rules", "lambda", "+", "car", strings.Repeat("a", 40)} {
		canBe(t, "(define-syntax "+name+" "+good+")")
		expands(t, "(define-syntax "+name+" "+good+") (("+name+"))", "(1)")
	}
	for _, name := range []string{"1", "-1.5", "\"m\"", "#t", "#\\m", "()", "(m)", "(m . n)", "#(m)", "(quote m)"} {
		cannotBe(t, "(define-syntax "+name+" "+good+")")
	}
}

func TestDefinitionsRules(t *testing.T) {
	for _, rules := range []string{
		"m", "1", "\"syntax-rules\"", "()", "(())", "#(syntax-rules () ((_) 1))", "(syntax-rule () ((_) 1))", "(Syntax-rules () ((_) 1))", "(\"syntax-rules\" () ((_) 1))", "((syntax-rules) () ((_) 1))", "(() ((_) 1))", "(lambda () ((_) 1))", "((_) 1)",
		"syntax-rules", "(1 syntax-rules () ((_) 1))", "(syntax-rules () ((_) 1) . 1)", "(syntax-rules () . 1)", "(syntax-rules . 1)", "(syntax-rules () ((_) 1) . #(((_) 1)))",
		"(syntax-rules)", "(syntax-rules ())", "(syntax-rules (a b))", "(syntax-rules ((_) 1))", "(quote (syntax-rules () ((_) 1)))",
	} {
		cannotBe(t, "(define-syntax m "+rules+")")
	}
}

func TestLiterals(t *testing.T) {
	for _, literals := range []string{"()", "(a)", "(a b c)", "(a a)", "(m)", "(quote)", "(syntax-rules define-syntax)", "(....)", "(.. __ -)", "(else =>)"} {
		canBe(t, "(define-syntax m (syntax-rules "+literals+" ((_) 1)))")
	}
	for _, literals := range []string{"a", "1", "#t", "\"\"", "#\\a", "#()", "#(a)", "(a . b)", "(a b . c)", "(1)", "(\"a\")", "(#t)", "(#\\a)", "(())", "((a))", "(#(a))", "(a 1)", "(1 a)", "(a (b) c)", "(...)", "(_)", "(a ...)", "(... a)", "(a _ b)", "(_ _)"} {
		cannotBe(t, "(define-syntax m (syntax-rules "+literals+" ((_) 1)))")
	}
}

func TestRules(t *testing.T) {
	canBe(t, defined("m", "((_) 1)", "((_ a) a)", "((_ . a) a)"))
	canBe(t, defined("m", "((_) 1)", "((_) 1)"))
	for _, rule := range []string{"1", "a", "\"\"", "#t", "()", "((_))", "((_) 1 2)", "((_) 1 ((_) 1))", "((_) . 1)", "((_) 1 . 2)", "#((_) 1)", "(((_) 1))", "(_ 1)", "(1 1)", "(#t 1)", "(\"_\" 1)", "(#(_) 1)", "(() 1)"} {
		cannotBe(t, defined("m", rule))
		cannotBe(t, defined("m", "((_) 1)", rule))
		cannotBe(t, defined("m", rule, "((_) 1)"))
		cannotBe(t, defined("m", "((_) 1)", "((_ a) 1)", rule, "((_ a b) 1)"))
	}
}

func TestPatternsFirstItems(t *testing.T) {
	for _, first := range []string{"_", "...", "m", "a", "x", "lit", "quote", "define-syntax"} {
		expands(t, ruled("("+first+")", "1")+"(m)", "1")
		expands(t, ruled("("+first+" x)", "(y x)")+"(m 2)", "(y 2)")
		expands(t, ruled("("+first+" x ...)", "(y x ...)")+"(m 2 3)", "(y 2 3)")
		expands(t, ruled("("+first+" . x)", "(y . x)")+"(m 2 3)", "(y 2 3)")
	}
	expands(t, ruled("(a b)", "(a b)")+"(m 1)", "(a 1)") // it is no variable
	expands(t, ruled("(lit b)", "(lit b)")+"(m 1)", "(lit 1)")
	for _, pattern := range []string{"(1)", "(\"_\")", "(#t)", "(#\\_)", "(())", "((_))", "((_ a))", "((_) a)", "(#(_) a)", "((a . b) c)", "(1 . a)", "(#t a . b)", "((a) . b)", "(() . a)"} {
		isNoPattern(t, pattern)
	}
}

func TestVariablesOnce(t *testing.T) {
	for _, pattern := range []string{"(_ a a)", "(_ a b a)", "(_ a b c b)", "(_ (a) a)", "(_ a (a))", "(_ (a) (a))", "(_ (a a))", "(_ a (b (c (a))))", "(_ a . a)", "(_ (a) . a)", "(_ (a . a))", "(_ (b . a) . a)", "(_ a ... a)", "(_ a a ...)", "(_ a ... (a ...))", "(_ (a a) ...)", "(_ (a b) ... (c b))", "(_ ((a ...) ...) a)", "(a b b)"} {
		isNoPattern(t, pattern)
	}
	for _, pattern := range []string{"(_ _ _)", "(_ _ ... _)", "(_ (_ ...) . _)", "(_ lit lit)", "(_ lit ... lit)", "(_ lit else lit else)", "(a a)", "(a (a))", "(a . a)", "(_ #(a) a)", "(_ #(a) #(a))", "(_ #(a a))", "(_ a A)", "(_ 1 1 \"a\" \"a\")"} {
		canBe(t, ruled(pattern, "1"))
	}
}

// around is patterns with one that has a list for its parts, or TEMPLATES with one, in them.
func around(items string) []string {
	return []string{"(_ " + items + ")", "(_ (" + items + "))", "(_ x (" + items + ") y)", "(_ ((" + items + ") x))", "(_ (" + items + ") ...)", "(_ x ((y (" + items + ") ...) ... z))", "(_ (" + items + ") . x)", "(_ x ((" + items + ") . y))"}
}

func TestEllipsesInPatterns(t *testing.T) {
	for _, items := range []string{"a ...", "a ... b", "a b ...", "a b ... c d", "1 ...", "lit ...", "lit ... else", "_ ...", "_ ... a", "() ...", "(a b) ...", "(a ...) ...", "(a ... b) ... c", "((a ...) ...) ...", "(a ...) (b ...) (c ...)", "(a ...) b ...", "#(a) ...", "#(... ...) a ...", "\"...\" ...", "(a . b) ..."} {
		for _, pattern := range around(items) {
			canBe(t, ruled(pattern, "1"))
		}
	}
	for _, items := range []string{
		"...", "... a", "... ...", "... a ...", "... . a", // at its beginning
		"a ... ...", "a b ... ...", "a ... ... b", "(a ...) ... ...", "1 ... ...", // behind one
		"a ... b ...", "a ... b c ...", "a b ... c d ...", "(a ...) ... b ...", "1 ... 1 ...", "_ ... _ ...", "lit ... a ...", "a ... b ... c ...", // two Items
		"a . ...", "a b . ...", "a ... . ...", "(a ...) . ...", // as its tail
		"a ... . b", "a b ... . c", "a ... b . c", "_ ... . _", "lit ... . 1", "(a ...) ... . #()", // in a list with a tail
	} {
		for _, pattern := range around(items) {
			isNoPattern(t, pattern)
		}
	}
	isNoPattern(t, "(_ . ...)")
	isNoPattern(t, "(_ ... . a)")
	isNoPattern(t, "(... ...)")
	isNoPattern(t, "(... ... a)")
}

// What isn't the symbol is no ELLIPSIS, and no UNDERLINE.
func TestTextsAreNoEllipses(t *testing.T) {
	expands(t, ruled("(_ a \"...\" b \"...\")", "(a \"...\" b #(...) \"...\" . \"...\")")+"(m 1 \"...\" 2 \"...\")", "(1 \"...\" 2 #(...) \"...\" . \"...\")")
	expands(t, ruled("(_ \"...\" ... . ())", "(\"...\" .... .. \"_\")")+"(m) (m \"...\" \"...\")", "(\"...\" .... .. \"_\") (\"...\" .... .. \"_\")")
	fails(t, ruled("(_ a \"...\")", "1")+"(m 1 2)", api.ErrMatch, 1)
	fails(t, ruled("(_ \"_\")", "1")+"(m 1)", api.ErrMatch, 1)
	expands(t, ruled("(_ .... ..)", "(.. ....)")+"(m 1 2)", "(2 1)")
	expands(t, "(define-syntax m (syntax-rules (....) ((_ .... a) a)))(m .... 1)", "1")
	fails(t, "(define-syntax m (syntax-rules (\"lit\") ((_ lit) lit)))(m 1)", api.ErrMacro, 0)
	fails(t, "(\"define-syntax\") (define-syntax m (\"syntax-rules\" () ((_) 1)))", api.ErrMacro, 1)
}

// isTemplate complains, if a text can't be a TEMPLATE, or can, where a has RANK 0, b and c 1, d 2, e 3.
func isTemplate(t *testing.T, template string, can bool) {
	t.Helper()
	const pattern = "(_ a (b ...) ((d ...) ...) (((e ...) ...) ...) c ...)"
	if can {
		canBe(t, ruled(pattern, template))
		return
	}
	cannotBe(t, ruled(pattern, template))
	cannotBe(t, defined("m", "((_) 1)", "("+pattern+" "+template+")"))
	cannotBe(t, defined("m", "("+pattern+" "+template+")", "((_) 1)"))
}

func TestEllipsesInTemplates(t *testing.T) {
	for _, template := range []string{
		"1", "a", "x", "_", "lit", "()", "(a)", "(a . a)", "(a a)", "(x . y)", "\"...\"", "#(...)", "(b ...)", "(b ... c ...)", "(b ... b ...)", "(b ... . a)", "(a . (b ...))", "(x (b ...) (c ... a))", "((a b) ...)", "((b c) ...)", "((b . c) ...)", "((x b x) ... x)", "(b ... c ... a b ... . #(b))",
		"((d ...) ...)", "((d ... a) ...)", "((d ... b) ...)", "(((d b) ...) ...)", "(((d b a) ...) ... . a)", "((b d ...) ... b ...)", "(((e ...) ...) ...)", "((((e d b a) ...) ...) ...)", "(((e ... d) ... b) ... a)", "(((b . d) ...) ...)", "((x . b) ...)", "((a . (b)) ...)", "(#(b) b ...)", "((b #(...)) ...)",
	} {
		isTemplate(t, template, true)
	}
}

func TestEllipsesWhereNoneCanStand(t *testing.T) {
	for _, template := range []string{
		"...", "(...)", "(... a)", "(... ...)", "(... b ...)", "(... . a)", "(a . ...)", "(b ... . ...)", "(b ... ...)", "(b ... ... a)", "(d ... ...)", "((d ...) ... ...)", "(a (...))", "(a (... b))", "((b ... ...) a)", "((a . ...) ...)", "(x (y ((b ...) ...  (... z))))", "(() . ...)",
	} {
		isTemplate(t, template, false)
	}
}

func TestVariablesInTooFewItems(t *testing.T) {
	for _, template := range []string{
		"b", "(b)", "(a b)", "(a . b)", "((a (b)))", "(b ... b)", "(b b ...)", "(b ... . b)", "((b ...) b)", "(d ...)", "((d) ...)", "((b d) ...)", "((b . d) ...)", "((d ...) ... d)", "((d ...) ... (d b) ...)", "((e ...) ...)", "(((e) ...) ...)", "(((d e) ...) ...)", "(((e ...) ...) ... ((e ...) ...))", "d", "e", "(x y . e)",
	} {
		isTemplate(t, template, false)
	}
}

func TestEllipsesWithoutVariables(t *testing.T) {
	for _, template := range []string{
		"(a ...)", "(1 ...)", "(x ...)", "(_ ...)", "(lit ...)", "(() ...)", "((a x) ...)", "((x . a) ...)", "(b ... a ...)", "(a ... b ...)", "(\"b\" ...)", "(#(b) ...)", "((a #(b ...)) ...)", // of RANK 0, or none
		"((b ...) ...)", "(((b) ...) ...)", "((b a ...) ...)", "((b b ...) ...)", "((b x ...) ...)", "((d ... a ...) ...)", "((d ... b ...) ...)", "((b ... d ...) ...)", "((d ... (b) ...) ...)", "(((b . a) ...) ...)", // of too small a RANK
		"(((d ...) ...) ...)", "((((e ...) ...) ...) ...)", "(((e ... d ...) ...) ...)", "(((e ...) ... (d ...) ...) ...)", "((((d b) ...) ...) ...)", "(((e ...) ... b ...) ...)",
	} {
		isTemplate(t, template, false)
	}
}

// A vector stands for itself.
func TestVectorsHaveNoVariables(t *testing.T) {
	for _, vector := range []string{"#(a)", "#(a a)", "#(...)", "#(... a)", "#(a ... ...)", "#(a ... b ...)", "#(_ (a ...) #(b ...) (a . ...))", "#(lit)"} {
		expands(t, ruled("(_ "+vector+" a (b ...))", "(x "+vector+" a b ... . "+vector+")")+"(m "+vector+" 1 (2 3))", "(x "+vector+" 1 2 3 . "+vector+")")
		expands(t, ruled("(_ a . "+vector+")", vector)+"(x (m 1 . "+vector+"))", "(x "+vector+")")
		fails(t, ruled("(_ "+vector+")", "1")+"(m #(1))", api.ErrMatch, 1)
	}
}

func TestDefineSyntaxElsewhere(t *testing.T) {
	expands(t, "(begin (define-syntax m "+good+")) (m)", "(begin (define-syntax m "+good+")) (m)")
	expands(t, "(define-syntax . m) (define-syntax m . 1) (define-syntax m "+good+" . 1)", "(define-syntax . m) (define-syntax m . 1) (define-syntax m "+good+" . 1)")
	expands(t, defined("m", "((_) 1)")+"(define-syntax (m) . 2) (define-syntax m (m) . m)", "(define-syntax 1 . 2) (define-syntax m 1 . m)")
	expands(t, "define-syntax (x define-syntax m "+good+") #(define-syntax) \"define-syntax\" ((define-syntax) m) (m)", "define-syntax (x define-syntax m "+good+") #(define-syntax) \"define-syntax\" ((define-syntax) m) (m)")
	expands(t, defined("m", "((_) (define-syntax n "+good+"))")+"(m) (n)", "(define-syntax n "+good+") (n)") // what is made is no FORM of the program
	expands(t, defined("m", "((_) (define-syntax 1))")+"(m)", "(define-syntax 1)")
	expands(t, "(define-syntax define-syntax (syntax-rules () ((_ a) (x a)))) ((define-syntax 1)) (define-syntax n "+good+") (n)", "((x 1)) 1")
	fails(t, "(define-syntax define-syntax (syntax-rules () ((_ a) (x a)))) (define-syntax 1)", api.ErrMacro, 1)
}
