package core_test

import (
	"strings"
	"testing"

	"distaff/api"
)

// P8.2: all but what binds.

func TestConstants(t *testing.T) {
	for _, text := range []string{"0", "-1", "2.5", "-0.0", "+inf.0", "+nan.0", "340282366920938463463374607431768211456", "#t", "#f", "#\\a", "#\\space", "\"\"", "\"a b\"", "#()", "#(1 a)", "#(if (quote))", "#(#(()) (a . b))"} {
		is(t, text, "'"+text)
		is(t, "(quote "+text+")", "'"+text)
	}
	for _, text := range []string{"a", "unbound", "if", "else", "()", "(1)", "(a . b)", "(if)", "(lambda (if) 1)", "(define x 1)", "(unquote x)", "(quote a)", "(quote)", "(a (b #(c)) . d)"} {
		is(t, "(quote "+text+")", "'"+text)
	}
	areNone(t, api.ErrSyntax, "(quote)", "(quote 1 2)", "(quote . 1)", "(quote 1 . 2)", "quote", "(quote 1 2 3)", "(quote () ())")
}

func TestVariables(t *testing.T) {
	is(t, "a", "a")
	is(t, "(lambda (x) x)", "(lambda (x) x)")
	for _, name := range strings.Fields(api.Prims) {
		is(t, name, name)
		is(t, "("+name+" 1)", "["+name+" '1]")
	}
}

func TestKeywordsAsData(t *testing.T) {
	for _, name := range strings.Fields(keywords) {
		areNone(t, api.ErrSyntax, name, "(car "+name+")", "("+name+" . 1)", "("+name+" a . b)", "(1 "+name+")", "((car) "+name+" 1)", "(("+name+" . 1))", "(lambda () "+name+")", "(lambda () 1 "+name+")")
	}
}

func TestKeywordsWithoutAForm(t *testing.T) {
	for _, name := range []string{"unquote", "unquote-splicing", "else", "=>"} {
		areNone(t, api.ErrSyntax, "("+name+")", "("+name+" 1)", "("+name+" 1 2)", "("+name+" (define x 1))", "("+name+" (lambda (if) 1) 2)", "(lambda () ("+name+" 1) 1)", "(car ("+name+" a))", "(("+name+" 1))")
	}
	for _, text := range []string{"(define-syntax)", "(define-syntax a)", "(define-syntax if ())", "(define-syntax a (syntax-rules () ((_) 1)))"} {
		isNone(t, text, api.ErrDefine)
		isNone(t, "(car "+text+")", api.ErrDefine)
	}
	for _, text := range []string{"(define)", "(define a)", "(define if ())", "(define a 1)", "(define () 1)", "(define (a) 1)"} {
		isNone(t, "(car "+text+")", api.ErrDefine)
		isNone(t, "("+text+")", api.ErrDefine)
	}
}

func TestCalls(t *testing.T) {
	is(t, "(a)", "[a]")
	is(t, "(a b c)", "[a b c]")
	is(t, "(a (b c) 1 \"d\" #(e))", "[a [b c] '1 '\"d\" '#(e)]")
	is(t, "((a))", "[[a]]")
	is(t, "(((a) b) c)", "[[[a] b] c]")
	is(t, "((lambda (x) x) 1)", "[(lambda (x) x) '1]")
	is(t, "(1)", "['1]")
	is(t, "(1 2)", "['1 '2]")
	is(t, "(\"if\" 1)", "['\"if\" '1]")
	is(t, "(#(if) 1)", "['#(if) '1]")
	is(t, "(#t)", "['#t]")
	is(t, "('a 'b)", "['a 'b]")
	is(t, "((if a b) c)", "[(if a b #void) c]")
	areNone(t, api.ErrSyntax, "()", "(())", "(a ())", "(a . b)", "(a b . c)", "(1 . 2)", "((a . b))", "(a (b . c))", "(a . \"b\")", "(a . #(b))", "(() . a)")
	inOrder(t, "(P1)")
	inOrder(t, "(P1 P2 P3)")
	inOrder(t, "(car P1 (P2 P3) P4)")
}

func TestIf(t *testing.T) {
	is(t, "(if a b)", "(if a b #void)")
	is(t, "(if a b c)", "(if a b c)")
	is(t, "(if (if a b) 1 (if c d e))", "(if (if a b #void) '1 (if c d e))")
	areNone(t, api.ErrSyntax, "(if)", "(if a)", "(if a b c d)", "(if a b c d e)", "(if . a)", "(if a . b)", "(if a b . c)", "(if a b c . d)", "(if (define x 1))", "(if a b c (define x 1))")
	inOrder(t, "(if P1 P2)")
	inOrder(t, "(if P1 P2 P3)")
}

func TestBeginWithin(t *testing.T) {
	is(t, "(begin a)", "a")
	is(t, "(begin a b)", "(seq a b)")
	is(t, "(begin a b 1 (c))", "(seq a b '1 [c])")
	is(t, "(begin (begin a))", "a")
	is(t, "(begin (begin a b) c)", "(seq (seq a b) c)")
	is(t, "(begin a (begin b) (begin c d))", "(seq a b (seq c d))")
	areNone(t, api.ErrSyntax, "(begin)", "(begin (begin))", "(begin a (begin))", "(begin . a)", "(begin a . b)")
	inOrder(t, "(car (begin P1))")
	inOrder(t, "(car (begin P1 P2 P3))")
}

func TestSet(t *testing.T) {
	is(t, "(set! a 1)", "(set! a '1)")
	is(t, "(set! a (car a))", "(set! a [car a])")
	is(t, "(lambda (x) (set! x a))", "(lambda (x) (set! x a))")
	areNone(t, api.ErrSyntax, "(set!)", "(set! a)", "(set! a 1 2)", "(set! 1 2)", "(set! \"a\" 2)", "(set! (a) 2)", "(set! 'a 2)", "(set! () 2)", "(set! #(a) 2)", "(set! . a)", "(set! a . 1)", "(set! a 1 . 2)", "(set! if)", "(set! car 1 2)", "(set! 1 (define x 1))")
	for _, name := range strings.Fields(keywords + " " + api.Prims) {
		isNone(t, "(set! "+name+" 1)", api.ErrBind)
		isNone(t, "(set! "+name+" ())", api.ErrBind)
	}
	inOrder(t, "(set! N1 P2)")
}

func TestAnd(t *testing.T) {
	is(t, "(and)", "'#t")
	is(t, "(and a)", "a")
	is(t, "(and a b)", "(if a b '#f)")
	is(t, "(and a b c 1)", "(if a (if b (if c '1 '#f) '#f) '#f)")
	is(t, "(and (and) (and a b) (and c))", "(if '#t (if (if a b '#f) c '#f) '#f)")
	areNone(t, api.ErrSyntax, "(and . a)", "(and a . b)", "(and ())", "(and a ())", "(and a () b)")
	inOrder(t, "(and P1)")
	inOrder(t, "(and P1 P2 P3)")
}

func TestOr(t *testing.T) {
	is(t, "(or)", "'#f")
	is(t, "(or a)", "a")
	is(t, "(or a b)", "(let ({t}) a (if {t} {t} b))")
	is(t, "(or a b c 1)", "(let ({t}) a (if {t} {t} (let ({t}) b (if {t} {t} (let ({t}) c (if {t} {t} '1))))))")
	is(t, "(or (or) (or a b) (or c))", "(let ({t}) '#f (if {t} {t} (let ({t}) (let ({t}) a (if {t} {t} b)) (if {t} {t} c))))")
	areNone(t, api.ErrSyntax, "(or . a)", "(or a . b)", "(or ())", "(or a ())", "(or a () b)")
	inOrder(t, "(or P1)")
	inOrder(t, "(or P1 P2 P3)")
}

func TestWhenAndUnless(t *testing.T) {
	is(t, "(when a b)", "(if a b #void)")
	is(t, "(when a b c d)", "(if a (seq b c d) #void)")
	is(t, "(unless a b)", "(if a #void b)")
	is(t, "(unless a b c d)", "(if a #void (seq b c d))")
	is(t, "(when (unless a b) (begin c))", "(if (if a #void b) c #void)")
	for _, keyword := range []string{"when", "unless"} {
		areNone(t, api.ErrSyntax, "("+keyword+")", "("+keyword+" a)", "("+keyword+" . a)", "("+keyword+" a . b)", "("+keyword+" a b . c)", "("+keyword+" (define x 1))", "("+keyword+" (lambda (if) 1))")
		inOrder(t, "("+keyword+" P1 P2)")
		inOrder(t, "("+keyword+" P1 P2 P3 P4)")
	}
}

func TestPerform(t *testing.T) {
	is(t, "(perform l)", "(perform l #void)")
	is(t, "(perform l a)", "(perform l a)")
	is(t, "(perform l (perform m (perform n)))", "(perform l (perform m (perform n #void)))")
	for _, name := range strings.Fields("unbound return _ ... " + keywords + " car +") { // a label is nothing that is bound
		is(t, "(perform "+name+" 1)", "(perform "+name+" '1)")
		is(t, "(perform "+name+")", "(perform "+name+" #void)")
	}
	areNone(t, api.ErrSyntax, "(perform)", "(perform l a b)", "(perform 1)", "(perform 1 2)", "(perform \"l\" 1)", "(perform 'l 1)", "(perform () 1)", "(perform (l) 1)", "(perform #(l) 1)", "(perform . l)", "(perform l . a)", "(perform l a . b)", "(perform l (define x 1) 2)", "(perform 1 (define x 1))", "(perform (l) (lambda (if) 1))")
	inOrder(t, "(perform l P1)")
}
