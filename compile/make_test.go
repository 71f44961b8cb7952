package compile_test

import (
	"testing"

	"distaff/api"
	"distaff/compile"
	"distaff/datum"
)

// P12.1, and the section Examples.

func TestExamples(t *testing.T) {
	c := program(t, "(+ 1 2)")
	want := []api.Instr{{Op: api.IPrim, A: 0}, {Op: api.IConst, A: 0}, {Op: api.IConst, A: 1}, {Op: api.ITail, A: 2}}
	if len(c.Procs) != 1 || len(c.Procs[0].Code) != len(want) {
		t.Fatal(told(c))
	}
	for i, x := range c.Procs[0].Code {
		if x != want[i] {
			t.Errorf("%d: %v", i, x)
		}
	}
	heads(t, "(+ 1 2)", "main 0 0 3 0")
	consts(t, "(+ 1 2)", "1 2")
	globals(t, "(+ 1 2)", "")
}

func TestNoTerms(t *testing.T) {
	for _, l := range [][]api.Core{nil, {}} {
		c := compiled(t, l)
		if told(c) != "main 0 0 1 0: void; return\nConsts \nGlobals " {
			t.Error(told(c))
		}
	}
}

// Each name that is bound is another one, wherever it is called alike.
func TestTermsAreUnique(t *testing.T) {
	bodies(t, "(lambda (x) (let ((x x)) (lambda (x) x) x))", "closure 1; return", "local 0; setlocal 1; closure 2; pop; local 1; return", "local 0; return")
	bodies(t, "(let ((x 1)) (let ((x x)) x))", "const 0; setlocal 0; local 0; setlocal 1; local 1; return")
	bodies(t, "(lambda (x) (let ((x 1)) (set! x 2) x) x)", "closure 1; return", "const 0; box; setlocal 1; local 1; const 1; setbox; void; pop; local 1; unbox; void; setlocal 1; pop; local 0; return")
	bodies(t, "(lambda (x) x) (lambda (x) (set! x 1))", "closure 1; pop; closure 2; return", "local 0; return", "local 0; box; setlocal 0; local 0; const 0; setbox; void; return")
	bodies(t, "(define x 1) (lambda (x) (lambda () x)) (lambda () x)", "const 0; defglobal 0; void; pop; closure 1; pop; closure 3; return", "local 0; closure 2; return", "free 0; return", "global 0; return")
}

// A name is LOCAL if a term binds it, and CHANGING only where that one changes.
func TestWhatChanges(t *testing.T) {
	bodies(t, "(define x 1) (set! x 2) x", "const 0; defglobal 0; void; pop; const 1; setglobal 0; void; pop; global 0; return")
	bodies(t, "(define x 1) (set! x 2) (lambda (x) x)", "const 0; defglobal 0; void; pop; const 1; setglobal 0; void; pop; closure 1; return", "local 0; return")
	bodies(t, "(define x 1) (lambda (x) (set! x 2) x) x", "const 0; defglobal 0; void; pop; closure 1; pop; global 0; return", "local 0; box; setlocal 0; local 0; const 1; setbox; void; pop; local 0; unbox; return")
	bodies(t, "(lambda (x) (lambda () (set! x 1)) x)", "closure 1; return", "local 0; box; setlocal 0; local 0; closure 2; pop; local 0; unbox; return", "free 0; const 0; setbox; void; return")
	bodies(t, "x (define x 1) (lambda () (set! x 2))", "global 0; pop; const 0; defglobal 0; void; pop; closure 1; return", "const 1; setglobal 0; void; return")
	bodies(t, "(letrec ((x 1)) x)", "fresh; setlocal 0; local 0; const 0; setbox; local 0; unbox; return")
	bodies(t, "(let ((x 1)) x)", "const 0; setlocal 0; local 0; return")
	bodies(t, "(or 1 2)", "const 0; setlocal 0; local 0; branch 6; local 0; return; const 1; return")
}

func TestGlobals(t *testing.T) {
	globals(t, "1", "")
	globals(t, "(define x 1)", "x")
	globals(t, "(define y 1) (define x 2) (define z 3)", "y x z")
	globals(t, "(define y 1) (define x 2) (define y 3) (define z 4) (define x 5)", "y x z")
	globals(t, "(lambda () (z x)) (set! z y) (define y 1) (define x z) (define z 3)", "y x z")
	globals(t, "(begin (define y 1) (begin (define x y))) (define (z . a) a)", "y x z")
	globals(t, "(lambda (a) (define b a) b) (let ((c 1)) c) car (define d 1)", "d")
	bodies(t, "(define y 1) (define x 2) (define y 3) (x y)", "const 0; defglobal 0; void; pop; const 1; defglobal 1; void; pop; const 2; defglobal 0; void; pop; global 1; global 0; tail 1")
	bodies(t, "(set! z y) (define y 1) (define z 2)", "global 0; setglobal 1; void; pop; const 0; defglobal 0; void; pop; const 1; defglobal 1; void; return")
}

func TestConstsAreThereOnce(t *testing.T) {
	consts(t, "car", "")
	consts(t, "(if car cdr) (perform void)", "void")
	consts(t, "1 2 1 2 3", "1 2 3")
	consts(t, "1 1.0 1 1.0 -1 -1.0", "1 1.0 -1 -1.0")
	consts(t, "0.0 -0.0 0 0.0 -0.0", "0.0 -0.0 0")
	consts(t, "+nan.0 +inf.0 -inf.0 +nan.0 -inf.0 +inf.0", "+nan.0 +inf.0 -inf.0")
	consts(t, "'a \"a\" #\\a '(a) '#(a) '(a . a) 'a \"a\" #\\a '(a) '#(a) '(a . a)", "a \"a\" #\\a (a) #(a) (a . a)")
	consts(t, "#t #f #t '#t '() '() '#()", "#t #f () #()")
	consts(t, "18446744073709551616 18446744073709551617 18446744073709551616 4294967296", "18446744073709551616 18446744073709551617 4294967296")
	consts(t, "'(1 (2 . 3)) '(1 (2 3)) '(1 (2 . 3)) '(1 2 3) '(1 . 2) '(1 2 . 3) '(1 (2 . 4))", "(1 (2 . 3)) (1 (2 3)) (1 2 3) (1 . 2) (1 2 . 3) (1 (2 . 4))")
	consts(t, `"" "\"" "\\" "\\\"" "" "\n" "n" "1" 1 'x "x" "\""`, `"" "\"" "\\" "\\\"" "\n" "n" "1" 1 x "x"`)
	consts(t, "(lambda () 1) (lambda (x) 2 1) (define x 2) 3", "1 2 3")
	bodies(t, "1 2 1 'a 2", "const 0; pop; const 1; pop; const 0; pop; const 2; pop; const 1; return")
}

// Data of unlike kinds that look alike, one within the other.
func TestConstsThatLookAlike(t *testing.T) {
	consts(t, `'quote ''a '(quote a) "'a" "(quote a)" #\( "(" #\a 'a "a" "#\\a" '#(a) '(a) "#(a)" '(a . b) '(a b) "a . b"`, `quote (quote a) "'a" "(quote a)" #\( "(" #\a a "a" "#\\a" #(a) (a) "#(a)" (a . b) (a b) "a . b"`)
	consts(t, `#\space #\x20 " " #\tab #\x9 "\t" "\x9;" #\x41 #\A "A" "\x41;" 'A`, `#\space " " #\tab "\t" #\A "A" A`)
	consts(t, "1e3 1000.0 1000 1e21 1000000000000000000000.0 0.5 .5 5e-1 1 +1", "1000.0 1000 1e21 0.5 1")
}

func TestConstsAreInTheOrderOfAsking(t *testing.T) {
	consts(t, "(if 1 2 3)", "1 2 3")
	consts(t, "(lambda () 1 (lambda () 2) 3) 4", "1 2 3 4")
	consts(t, "(1 2 (3 4) 5)", "1 2 3 4 5")
	consts(t, "(let ((x 1) (y 2)) 3)", "1 2 3")
	consts(t, "(letrec ((x 1) (y 2)) 3)", "1 2 3")
	consts(t, "(lambda (x) (set! x 1) (set! x 2))", "1 2")
	consts(t, "(define x (car 2 1)) (begin 4 3)", "2 1 4 3")
	consts(t, "(perform ask 1)", "1 ask")
	consts(t, "(perform ask (perform tell 1))", "1 tell ask")
	consts(t, "(handle 1 (b (x k) 2) (return (x) 3) (a (x k) 4))", "1 3 b 2 a 4")
	consts(t, "(handle (perform a) (b (x k) 'a) (a (x k) 'b) (c (x k) 'c))", "a b c")
	consts(t, "(handle (handle 1 (a (x k) 2)) (b (x k) 3))", "1 a 2 b 3")
}

// A name's Const is its symbol, and the same as a constant that is this symbol.
func TestConstsOfNames(t *testing.T) {
	consts(t, "(perform ask 'ask) 'ask (handle 1 (ask (x k) 'ask)) '(ask) \"ask\"", "ask 1 (ask) \"ask\"")
	consts(t, "(perform ask 1) (perform ask 2)", "1 ask 2")
	bodies(t, "(perform ask 'ask)", "const 0; perform 0; return")
	bodies(t, "'x (perform ask \"ask\") 'ask", "const 0; pop; const 1; perform 2; pop; const 2; return")
	bodies(t, "(handle 'a (a (x k) 'a))", "closure 1; closure 2; const 0; closure 3; handle 1 3; return", "const 0; return", "local 0; return", "const 0; return")
	for _, d := range program(t, "(perform ask)").Consts {
		if !datum.Same(d, datum.Sym("ask")) {
			t.Error(d)
		}
	}
}

// Procedures have the numbers in which they are begun: those within another one come behind it, and ahead of those that come behind it.
func TestProcsAreNumberedAsTheyAreBegun(t *testing.T) {
	heads(t, "1", "main 0 0 1 0")
	heads(t, "(lambda () (lambda (a) (lambda (a b) 1)) (lambda (a b c) 1)) (lambda (a b c d) 1)", "main 0 0 1 0", "lambda 0 0 1 0", "lambda 1 1 1 0", "lambda 2 2 1 0", "lambda 3 3 1 0", "lambda 4 4 1 0")
	heads(t, "(handle (lambda (a) 1) (b (x k) (lambda (a b c) 1)) (return (x) (lambda (a b) 1)) (a (x k) 1))", "main 0 0 6 0", "body 0 0 1 0", "lambda 1 1 1 0", "return 1 1 1 0", "lambda 2 2 1 0", "b 2 2 1 0", "lambda 3 3 1 0", "a 2 2 1 0")
	bodies(t, "(lambda () (lambda () 1)) (lambda () 2)", "closure 1; pop; closure 3; return", "closure 2; return", "const 0; return", "const 1; return")
	bodies(t, "(let ((f (lambda () 1))) ((lambda () f) (lambda () 2)))", "closure 1; setlocal 0; local 0; closure 2; closure 3; tail 1", "const 0; return", "free 0; return", "const 1; return")
	bodies(t, "(if (lambda () 1) (lambda () 2) (lambda () 3))", "closure 1; branch 4; closure 2; return; closure 3; return", "const 0; return", "const 1; return", "const 2; return")
}

// main is the first procedure, and has no Params, Rest and free values.
func TestMain(t *testing.T) {
	for _, text := range []string{"", "1", "(define x 1) (lambda (x . y) x)", "(let ((x 1) (y 2)) (lambda (z) (x y z)))"} {
		p := program(t, text).Procs[0]
		if p.Name != "main" || p.Params != 0 || p.Rest || p.Free != 0 {
			t.Errorf("%s: %s", text, head(p))
		}
	}
}

func TestErrors(t *testing.T) {
	if api.ErrFrame != 121 {
		t.Error(api.ErrFrame)
	}
	if _, e := compile.Make(made(t, "(lambda ("+many(180)+") 1)")); e != 121 {
		t.Error(e)
	}
}
