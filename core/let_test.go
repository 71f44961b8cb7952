package core_test

import (
	"strings"
	"testing"

	"distaff/api"
)

// P8.2: what binds, and P8.3.

func TestLambda(t *testing.T) {
	is(t, "(lambda () a)", "(lambda () a)")
	is(t, "(lambda (x) x)", "(lambda (x) x)")
	is(t, "(lambda (x y z) a b)", "(lambda (x y z) (seq a b))")
	is(t, "(lambda (x . y) y)", "(lambda (x . y) y)")
	is(t, "(lambda (x y . z) y)", "(lambda (x y . z) y)")
	is(t, "(lambda x x)", "(lambda (. x) x)")
	is(t, "(lambda (x) (lambda (y) x) (lambda x a))", "(lambda (x) (seq (lambda (y) x) (lambda (. x) a)))")
	is(t, "(lambda (_ ... return) _)", "(lambda (_ ... return) _)")
	areNone(t, api.ErrSyntax, "(lambda)", "(lambda ())", "(lambda x)", "(lambda (x))", "(lambda 1 a)", "(lambda \"x\" a)", "(lambda #(x) a)", "(lambda #t a)", "(lambda (1) a)", "(lambda (x 1) a)", "(lambda (x (y)) a)", "(lambda ((x 1)) a)", "(lambda (x . 1) a)", "(lambda (x . #(y)) a)", "(lambda (x . \"y\") a)", "(lambda (1 . x) a)", "(lambda (x 1 . y) a)", "(lambda (()) a)", "(lambda . x)", "(lambda x . a)", "(lambda () . a)", "(lambda () a . b)", "(lambda 'x 1 . 2)")
	areNone(t, api.ErrSyntax, "(lambda (if))", "(lambda if)", "(lambda (if 1) 1)", "(lambda (x x 1) (define x 1))", "(lambda (if . 1) (lambda (if) 1))")
	inOrder(t, "(lambda (N1 N2) P3 P4)")
	inOrder(t, "(lambda (N1 N2 . N3) P4)")
	inOrder(t, "(lambda N1 P2 P3)")
	fails(t, "(lambda (x x) ())", api.ErrBind, 0)
	fails(t, "(lambda (if) (define x 1))", api.ErrBind, 0) // what the BODY lacks is behind the names
}

// lets is what let, letrec and letrec* make.
var lets = map[string]string{"let": "let", "letrec": "letrec", "letrec*": "letrec"}

func TestLet(t *testing.T) {
	for keyword, kind := range lets {
		tries := func(text, want string) {
			t.Helper()
			is(t, "("+keyword+" "+text+")", "("+kind+" "+want+")")
		}
		tries("() a", "() a")
		tries("() a b", "() (seq a b)")
		tries("((x 1)) x", "(x) '1 x")
		tries("((x 1) (y (a)) (z b)) x (y z)", "(x y z) '1 [a] b (seq x [y z])")
		tries("((x 1)) (define y x) y", "(x) '1 (letrec (y) x y)")
		tries("((x (lambda (y) y))) (let ((y x)) y)", "(x) (lambda (y) y) (let (y) x y)")
		tries("((a 1)) (set! a 2)", "(a) '1 (set! a '2)")
		areNone(t, api.ErrSyntax, "("+keyword+")", "("+keyword+" ())", "("+keyword+" ((x 1)))", "("+keyword+" 1 a)", "("+keyword+" #((x 1)) a)", "("+keyword+" \"x\" a)", "("+keyword+" (x) a)", "("+keyword+" (x 1) a)", "("+keyword+" ((x)) a)", "("+keyword+" ((x 1 2)) a)", "("+keyword+" (()) a)", "("+keyword+" ((1 2)) a)", "("+keyword+" (((x) 2)) a)", "("+keyword+" ((\"x\" 2)) a)", "("+keyword+" (#(x 2)) a)", "("+keyword+" ((x . 1)) a)", "("+keyword+" ((x 1 . 2)) a)", "("+keyword+" ((x 1) . y) a)", "("+keyword+" ((x 1) . #()) a)", "("+keyword+" ((x 1) y) a)", "("+keyword+" ((x 1) (y)) a)", "("+keyword+" . x)", "("+keyword+" () . a)", "("+keyword+" () a . b)")
		areNone(t, api.ErrSyntax, "("+keyword+" ((if (define x 1)) (x)) a)", "("+keyword+" ((if (lambda (if) 1))))", "("+keyword+" ((car 1) (car 2) 3) (define x 1))")
		inOrder(t, "("+keyword+" () P1 P2)")
		inOrder(t, "("+keyword+" ((N1 P3) (N2 P4)) P5 P6)")
		inOrder(t, "("+keyword+" ((N1 P3) (N2 P4)) (define N5 P7) (define (N6) P8) P9)")
		fails(t, "("+keyword+" ((x ()) (x (define y 1))) (lambda (if) 1))", api.ErrBind, 0)
	}
}

func TestLetWithAName(t *testing.T) {
	is(t, "(let f () a)", "[(letrec (f) (lambda () a) f)]")
	is(t, "(let f () a b (f))", "[(letrec (f) (lambda () (seq a b [f])) f)]")
	is(t, "(let g ((x 1)) (g x))", "[(letrec (g) (lambda (x) [g x]) g) '1]")
	is(t, "(let g ((x 1) (y (b)) (z c)) x (g y z))", "[(letrec (g) (lambda (x y z) (seq x [g y z])) g) '1 [b] c]")
	is(t, "(let g ((x 1)) (define y x) y)", "[(letrec (g) (lambda (x) (letrec (y) x y)) g) '1]")
	is(t, "(let g ((x (let g () g))) g)", "[(letrec (g) (lambda (x) g) g) [(letrec (g) (lambda () g) g)]]")
	areNone(t, api.ErrSyntax, "(let g)", "(let g ())", "(let g ((x 1)))", "(let g a)", "(let g 1 a)", "(let g x a)", "(let g #() a)", "(let g (x) a)", "(let g ((x)) a)", "(let g ((x 1 2)) a)", "(let g ((1 2)) a)", "(let g ((x . 1)) a)", "(let g ((x 1) . y) a)", "(let g ((x 1) y) a)", "(let \"g\" () a)", "(let 1 () a)", "(let (g) () a)", "(let g . a)", "(let g () . a)", "(let g () a . b)", "(let 'g () a)")
	areNone(t, api.ErrSyntax, "(let if)", "(let if ())", "(let if ((x)) a)", "(let g ((if (define x 1)) x) a)", "(let if ((if 1)))")
	inOrder(t, "(let N1 () P2 P3)")
	inOrder(t, "(let N1 ((N2 P4) (N3 P5)) P6 P7)")
	inOrder(t, "(let N1 ((N2 P4) (N3 P5)) (define N6 P7) P8)")
	fails(t, "(let f ((f ())) (define x 1))", api.ErrBind, 0) // the same form binds f and f
	fails(t, "(let f ((x ())) (define x 1))", api.ErrSyntax, 0)
	fails(t, "(let f ((x (car (define y 1)))) (define x 1))", api.ErrDefine, 0)
}

func TestLetEach(t *testing.T) {
	is(t, "(let* () a)", "(let () a)")
	is(t, "(let* () a b)", "(let () (seq a b))")
	is(t, "(let* ((x 1)) x)", "(let (x) '1 x)")
	is(t, "(let* ((x 1) (y x) (z (y))) x (y z))", "(let (x) '1 (let (y) x (let (z) [y] (seq x [y z]))))")
	is(t, "(let* ((x 1) (x (x)) (x (x))) x)", "(let (x) '1 (let (x) [x] (let (x) [x] x)))")
	is(t, "(let* ((x 1) (y 2)) (define z x) z)", "(let (x) '1 (let (y) '2 (letrec (z) x z)))")
	areNone(t, api.ErrSyntax, "(let*)", "(let* ())", "(let* ((x 1)))", "(let* x a)", "(let* f () a)", "(let* f ((x 1)) a)", "(let* #() a)", "(let* (x) a)", "(let* ((x)) a)", "(let* ((x 1 2)) a)", "(let* ((1 2)) a)", "(let* ((x . 1)) a)", "(let* ((x 1) . y) a)", "(let* ((x 1) ()) a)", "(let* . x)", "(let* () . a)", "(let* () a . b)")
	areNone(t, api.ErrSyntax, "(let* ((x (define y 1)) (if 2) (z)) a)", "(let* ((if 1) (x)) a)", "(let* ((if (lambda (if) 1))))", "(let* ((car 1) (y 2) (z 3) (1 4)) a)")
	inOrder(t, "(let* () P1 P2)")
	inOrder(t, "(let* ((N1 P2)) P3)")
	inOrder(t, "(let* ((N1 P2) (N3 P4) (N5 P6)) P7 P8)")
	inOrder(t, "(let* ((N1 P2) (N3 P4)) (define N5 P6) P7)")
	rows := strings.Repeat("(x x)", 700)
	makes(t, "(define x 1) (let* ("+rows+") x)", "(define x '1)", strings.Repeat("(let (x) x ", 700)+"x"+strings.Repeat(")", 700))
}

func TestDo(t *testing.T) {
	is(t, "(do () (a))", "[(letrec ({l}) (lambda () (if a #void [{l}])) {l})]")
	is(t, "(do () (a b))", "[(letrec ({l}) (lambda () (if a b [{l}])) {l})]")
	is(t, "(do () (a b c) d)", "[(letrec ({l}) (lambda () (if a (seq b c) (seq d [{l}]))) {l})]")
	is(t, "(do () (a) b c)", "[(letrec ({l}) (lambda () (if a #void (seq b c [{l}]))) {l})]")
	is(t, "(do ((x 1)) (x))", "[(letrec ({l}) (lambda (x) (if x #void [{l} x])) {l}) '1]")
	is(t, "(do ((x 1 (+ x 2))) (x))", "[(letrec ({l}) (lambda (x) (if x #void [{l} [+ x '2]])) {l}) '1]")
	is(t, "(do ((x 1 a) (y b) (z (c) 3)) ((x y) z e) d (f))", "[(letrec ({l}) (lambda (x y z) (if [x y] (seq z e) (seq d [f] [{l} a y '3]))) {l}) '1 b [c]]")
	is(t, "(do ((x (do () (1)))) ((do () (2))) (do () (3)))", "[(letrec ({l}) (lambda (x) (if [(letrec ({l}) (lambda () (if '2 #void [{l}])) {l})] #void (seq [(letrec ({l}) (lambda () (if '3 #void [{l}])) {l})] [{l} x]))) {l}) [(letrec ({l}) (lambda () (if '1 #void [{l}])) {l})]]")
	areNone(t, api.ErrSyntax, "(do)", "(do ())", "(do () ())", "(do () a)", "(do () 1 2)", "(do () #(a))", "(do () (a . b))", "(do () (a b . c))", "(do x (a))", "(do 1 (a))", "(do #() (a))", "(do (x) (a))", "(do (()) (a))", "(do ((x)) (a))", "(do ((x 1 2 3)) (a))", "(do ((1 2)) (a))", "(do (((x) 2)) (a))", "(do (#(x 2)) (a))", "(do ((x . 1)) (a))", "(do ((x 1 . 2)) (a))", "(do ((x 1) . y) (a))", "(do ((x 1) y) (a))", "(do ((x 1) (y)) (a))", "(do . x)", "(do () . a)", "(do () (a) . b)", "(do () (a) b . c)")
	areNone(t, api.ErrSyntax, "(do ((if (define x 1))) ())", "(do ((if 1 2 3)) (a))", "(do ((if 1)) a)", "(do ((x 1) (x 2)))", "(do ((if 1) (x)) (a))")
	inOrder(t, "(do () (P1) P2)")
	inOrder(t, "(do () (P1 P2 P3) P4 P5)")
	inOrder(t, "(do ((N1 P3) (N2 P4)) (P5 P6 P7) P8 P9)")
	inOrder(t, "(do ((N1 P3 P8) (N2 P4 P9)) (P5 P6) P7)")
	inOrder(t, "(do ((N1 P2 P7)) (P3 P4) P5 P6)")
	fails(t, "(do ((x () 1) (x (define y 1) 2)) ((lambda (if) 1)))", api.ErrBind, 0)
}

// P8.3

// bodies is all places of a BODY, as @, what a form with it makes, and of no datum.
var bodies = [][2]string{
	{"(lambda (x) @)", "(lambda (x) @)"}, {"(lambda x @)", "(lambda (. x) @)"}, {"(lambda (y . x) @)", "(lambda (y . x) @)"},
	{"(let ((x 1)) @)", "(let (x) '1 @)"}, {"(let f ((x 1)) @)", "[(letrec (f) (lambda (x) @) f) '1]"}, {"(let* ((x 1)) @)", "(let (x) '1 @)"}, {"(let* ((y 1) (x 2)) @)", "(let (y) '1 (let (x) '2 @))"}, {"(letrec ((x 1)) @)", "(letrec (x) '1 @)"}, {"(letrec* ((x 1)) @)", "(letrec (x) '1 @)"},
	{"(handle a (return (x) @))", "(deep (x) a @)"}, {"(handle a (l (x k) @))", "(deep ({t}) a {t} (l x k @))"}, {"(handle-shallow a (return (y) 1) (l (k x) @) (m (x y) 2))", "(shallow (y) a '1 (l k x @) (m x y '2))"},
	{"(lambda (x) (define (g) @) g)", "(lambda (x) (letrec (g) (lambda () @) g))"}, {"(lambda (x) (define (g . y) @) g)", "(lambda (x) (letrec (g) (lambda (. y) @) g))"},
}

func TestBodies(t *testing.T) {
	for _, place := range append(bodies, [2]string{"(let () @)", "(let () @)"}, [2]string{"(let* () @)", "(let () @)"}, [2]string{"(let f () @)", "[(letrec (f) (lambda () @) f)]"}) {
		for _, body := range [][2]string{
			{"1", "'1"}, {"a b 2", "(seq a b '2)"}, {"(begin a b)", "(seq a b)"}, {"(begin a) (begin b c)", "(seq a (seq b c))"},
			{"(define y 1) y", "(letrec (y) '1 y)"}, {"(define y 1) (define z y) z y", "(letrec (y z) '1 y (seq z y))"}, {"(define (y) z) (define z y) a", "(letrec (y z) (lambda () z) y a)"}, {"(define (y x . z) x z) (y 1)", "(letrec (y) (lambda (x . z) (seq x z)) [y '1])"}, {"(define (y . z) z) (define (z x) x) y", "(letrec (y z) (lambda (. z) z) (lambda (x) x) y)"},
			{"(define x 2) x", "(letrec (x) '2 x)"}, {"(define (y) (define y 1) y) y", "(letrec (y) (lambda () (letrec (y) '1 y)) y)"}, {"(define y (lambda () (define z y) z)) (let () (define z 1) z)", "(letrec (y) (lambda () (letrec (z) y z)) (let () (letrec (z) '1 z)))"},
		} {
			is(t, strings.Replace(place[0], "@", body[0], 1), strings.Replace(place[1], "@", body[1], 1))
		}
	}
}

func TestBodiesThatCannotBe(t *testing.T) {
	for _, place := range bodies {
		tries := func(e api.Errno, texts ...string) {
			t.Helper()
			for _, text := range texts {
				isNone(t, strings.Replace(place[0], "@", text, 1), e)
			}
		}
		tries(api.ErrSyntax, "", "(define y 1)", "(define (y) 1)", "(define y 1) (define z 2)", "(define y (define y 1))", "(define y (lambda (if) 1))") // none, or definitions only
		tries(api.ErrSyntax, "(define) 1", "(define y) 1", "(define y 1 2) 1", "(define 1 2) 1", "(define () 1) 1", "(define (y)) 1", "(define (1) 2) 1", "(define ((y)) 1) 1", "(define ((y) z) 1) 1", "(define \"y\" 1) 1", "(define #(y) 1) 1", "(define y 1) (define z) 1", "(define (1 . y) 2) 1", "(define (y 1) 2) 1", "(define (y . 1) 2) 1", "(define (y z . 1) 2) 1", "(define (y (z)) 2) 1")
		tries(api.ErrSyntax, "(define . y) 1", "(define y . 1) 1", "(define y 1 . 2) 1", "(define (y) . 1) 1", "define 1", "(define y 1) define", "(define y 1) ()")
		tries(api.ErrDefine, "1 (define y 1)", "1 (define y 1) y", "(define y 1) y (define z 1)", "(define y 1) y (define z 1) z", "(begin (define y 1)) 1", "(define y 1) (begin (define z 1)) 1", "(define y 1) (begin (define z 1))", "1 (define)", "(define y 1) 1 (define)")
		tries(api.ErrDefine, "(define-syntax y 1) 1", "(define-syntax) 1", "(define y 1) (define-syntax z 1)", "(define y 1) (define-syntax z 1) 1", "1 (define-syntax y 1)")
		tries(api.ErrBind, "(define if 1) 1", "(define car 1) 1", "(define (if) 1) 1", "(define (if . y) 1) 1", "(define y 1) (define y 2) y", "(define (y) 1) (define (y) 2) y", "(define y 1) (define z 2) (define (y) 3) z", "(define (y z z) 1) 1", "(define (y . if) 1) 1")
	}
}

// The shapes of all definitions first, then their names, then their values: and FORMALS are looked at with these.
func TestBodiesInOrder(t *testing.T) {
	for _, place := range bodies {
		tries := func(e api.Errno, texts ...string) {
			t.Helper()
			for _, text := range texts {
				fails(t, ahead+strings.Replace(place[0], "@", text, 1), e, 6)
			}
		}
		tries(api.ErrSyntax, "(define if (car (define z 1))) (define y) 1", "(define if 1) (define if 2)", "(define y (define y 1)) (define if (lambda (if) 1)) (define 1 2) 1", "(define y 1) (define if 1) (define (z)) ()", "(define y 1) (define y 2)")
		tries(api.ErrBind, "(define y ()) (define if 1) 1", "(define y (define y 1)) (define y 1) ()", "(define (y 1) 1) (define car 1) ()", "(define (if 1) 1) 1", "(define (y . 1) 1) (define (y) 2) 1", "(define if 1) ()", "(define (if) (define z 1)) (define-syntax)", "(define (y) ()) (define (if) (define z 1)) 1")
		tries(api.ErrSyntax, "(define y ()) (define z (lambda (if) 1)) 1", "(define y ()) (define z (define z 1)) 1", "(define (y 1) (define-syntax)) (define (z z z) 1) 1", "(define (y) (define z 1)) (define (z z z) 1) 1", "(define y 1) () (lambda (if) 1)")
		tries(api.ErrBind, "(define y (lambda (if) 1)) (define z ()) 1", "(define (y z z) 1) (define (z 1) 1) 1", "(define y 1) (lambda (if) 1) ()")
		tries(api.ErrDefine, "(define y (car (define z 1))) (define (z 1) 1) ()", "(define (y z) (define z 1) (define-syntax)) (define (z z z) 1) 1", "(define y 1) (define-syntax) ()")
	}
	inOrder(t, "(lambda () (define N1 P4) (define (N2 N5) P6) (define N3 P7) P8 P9)")
	inOrder(t, "(lambda () (define (N1 . N3) P4) (define (N2 N5 . N6) P7) P8)")
}
