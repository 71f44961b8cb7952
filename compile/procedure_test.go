package compile_test

import "testing"

// P12.2

func TestParams(t *testing.T) {
	heads(t, "(lambda () 1)", "main 0 0 1 0", "lambda 0 0 1 0")
	heads(t, "(lambda (a) 1)", "main 0 0 1 0", "lambda 1 1 1 0")
	heads(t, "(lambda (a b c) 1)", "main 0 0 1 0", "lambda 3 3 1 0")
	heads(t, "(lambda a 1)", "main 0 0 1 0", "lambda 0+ 1 1 0")
	heads(t, "(lambda (a . b) 1)", "main 0 0 1 0", "lambda 1+ 2 1 0")
	heads(t, "(lambda (a b c . d) 1)", "main 0 0 1 0", "lambda 3+ 4 1 0")
	heads(t, "(define (f a . b) 1) (define (g a) 2)", "main 0 0 1 0", "lambda 1+ 2 1 0", "lambda 1 1 1 0")
	heads(t, "(handle 1 (a (x k) 2) (return (x) 3))", "main 0 0 4 0", "body 0 0 1 0", "return 1 1 1 0", "a 2 2 1 0")
}

// Slot 0 and so on are the Names, the one for the rest, too.
func TestSlotsOfNames(t *testing.T) {
	bodies(t, "(lambda (a b c) c a b)", "closure 1; return", "local 2; pop; local 0; pop; local 1; return")
	bodies(t, "(lambda (a b . c) c a b)", "closure 1; return", "local 2; pop; local 0; pop; local 1; return")
	bodies(t, "(lambda a a)", "closure 1; return", "local 0; return")
	bodies(t, "(handle 1 (return (x) x) (a (x k) k x))", "closure 1; closure 2; const 1; closure 3; handle 1 3; return", "const 0; return", "local 0; return", "local 1; pop; local 0; return")
}

func TestBoxesAtTheBeginning(t *testing.T) {
	bodies(t, "(lambda (a) (set! a 1))", "closure 1; return", "local 0; box; setlocal 0; local 0; const 0; setbox; void; return")
	bodies(t, "(lambda (a b c) (set! c 1) (set! a b))", "closure 1; return", "local 0; box; setlocal 0; local 2; box; setlocal 2; local 2; const 0; setbox; void; pop; local 0; local 1; setbox; void; return")
	bodies(t, "(lambda (a . b) (lambda () (set! b a)))", "closure 1; return", "local 1; box; setlocal 1; local 1; local 0; closure 2; return", "free 0; free 1; setbox; void; return")
	bodies(t, "(lambda (a b) (lambda (c) (set! c 1)) (set! b 2))", "closure 1; return", "local 1; box; setlocal 1; closure 2; pop; local 1; const 1; setbox; void; return", "local 0; box; setlocal 0; local 0; const 0; setbox; void; return")
	bodies(t, "(handle 1 (return (x) (set! x 2)) (a (x k) (set! k x)))", "closure 1; closure 2; const 2; closure 3; handle 1 3; return", "const 0; return", "local 0; box; setlocal 0; local 0; const 1; setbox; void; return", "local 1; box; setlocal 1; local 1; local 0; setbox; void; return")
	bodies(t, "(handle 1 (a (x k) (set! k x) (set! x k)))", "closure 1; closure 2; const 1; closure 3; handle 1 3; return", "const 0; return", "local 0; return", "local 0; box; setlocal 0; local 1; box; setlocal 1; local 1; local 0; unbox; setbox; void; pop; local 0; local 1; unbox; setbox; void; return")
}

// The body is in TAIL place.
func TestBodiesAreInTailPlace(t *testing.T) {
	bodies(t, "(lambda () (car 1))", "closure 1; return", "prim car; const 0; tail 1")
	bodies(t, "(lambda () 1 (car 1))", "closure 1; return", "const 0; pop; prim car; const 0; tail 1")
	bodies(t, "(handle (car 1) (return (x) (car x)) (a (x k) (k x)))", "closure 1; closure 2; const 1; closure 3; handle 1 3; return", "prim car; const 0; tail 1", "prim car; local 0; tail 1", "local 1; local 0; tail 1")
}

// Free values are in the order in which the whole procedure's term uses them first, and LOCAL.
func TestFreeValues(t *testing.T) {
	bodies(t, "(lambda (a b c) (lambda () c a b a c))", "closure 1; return", "local 2; local 0; local 1; closure 2; return", "free 0; pop; free 1; pop; free 2; pop; free 1; pop; free 0; return")
	bodies(t, "(define d 1) (lambda (a b c) (lambda (e) b d car e a))", "const 0; defglobal 0; void; pop; closure 1; return", "local 1; local 0; closure 2; return", "free 0; pop; global 0; pop; prim car; pop; local 0; pop; free 1; return")
	bodies(t, "(lambda (a b c) (lambda () (lambda () c b) a b))", "closure 1; return", "local 2; local 1; local 0; closure 2; return", "free 0; free 1; closure 3; pop; free 2; pop; free 1; return", "free 0; pop; free 1; return")
	bodies(t, "(lambda (a b c) (lambda () (set! b (set! a c))))", "closure 1; return", "local 0; box; setlocal 0; local 1; box; setlocal 1; local 1; local 0; local 2; closure 2; return", "free 0; free 1; free 2; setbox; void; setbox; void; return")
	bodies(t, "(lambda (a b) (lambda () (let ((c b)) c a)))", "closure 1; return", "local 1; local 0; closure 2; return", "free 0; setlocal 0; local 0; pop; free 1; return")
	bodies(t, "(lambda (a b) (lambda () (letrec ((c b)) a)))", "closure 1; return", "local 1; local 0; closure 2; return", "fresh; setlocal 0; local 0; free 0; setbox; free 1; return")
	bodies(t, "(lambda (a b c) (lambda () (if c b a)))", "closure 1; return", "local 2; local 1; local 0; closure 2; return", "free 0; branch 4; free 1; return; free 2; return")
	bodies(t, "(lambda (a b c d) (handle d (x (y k) c) (return (y) b) (z (y k) a)))", "closure 1; return",
		"local 3; closure 2; local 1; closure 3; const 0; local 2; closure 4; const 1; local 0; closure 5; handle 2 3; return", "free 0; return", "free 0; return", "free 0; return", "free 0; return")
	heads(t, "(lambda (a b c d) (lambda () (handle d (x (y k) c) (return (y) b) (z (y k) a))))", "main 0 0 1 0", "lambda 4 4 4 0", "lambda 0 0 6 4", "body 0 0 1 1", "return 1 1 1 1", "x 2 2 1 1", "z 2 2 1 1")
	bodies(t, "(lambda (a b c d) (lambda () (handle d (x (y k) c) (return (y) b) (z (y k) a))))", "closure 1; return", "local 3; local 1; local 2; local 0; closure 2; return",
		"free 0; closure 3; free 1; closure 4; const 0; free 2; closure 5; const 1; free 3; closure 6; handle 2 3; return", "free 0; return", "free 0; return", "free 0; return", "free 0; return")
}

// What goes through a procedure without being used there is its free value all the same.
func TestFreeValuesThatGoThrough(t *testing.T) {
	bodies(t, "(lambda (a) (lambda (b) (lambda (c) a b c)))", "closure 1; return", "local 0; closure 2; return", "free 0; local 0; closure 3; return", "free 0; pop; free 1; pop; local 0; return")
	heads(t, "(lambda (a) (lambda (b) (lambda (c) a b c)))", "main 0 0 1 0", "lambda 1 1 1 0", "lambda 1 1 2 1", "lambda 1 1 1 2")
	bodies(t, "(let ((a 1)) (lambda () (lambda () (lambda () a))))", "const 0; setlocal 0; local 0; closure 1; return", "free 0; closure 2; return", "free 0; closure 3; return", "free 0; return")
}

func TestSlots(t *testing.T) {
	heads(t, "(let ((a 1) (b 2)) 3)", "main 0 2 2 0")
	heads(t, "(let () 1)", "main 0 0 1 0")
	heads(t, "(lambda (a b) (let ((c 1)) 2))", "main 0 0 1 0", "lambda 2 3 1 0")
	heads(t, "(let ((a 1)) (let ((b 2) (c 3)) 4))", "main 0 3 2 0")
	heads(t, "(let ((a (let ((b 1) (c 2)) 3))) 4)", "main 0 2 2 0")
	heads(t, "(lambda (a) (letrec ((b 1) (c 2) (d 3)) 4))", "main 0 0 1 0", "lambda 1 4 2 0")
	heads(t, "(let ((a 1)) (lambda (b c d) 2) 3)", "main 0 1 1 0", "lambda 3 3 1 0")
}

// Slots that are free are taken again, the lowest first.
func TestSlotsAreTakenAgain(t *testing.T) {
	bodies(t, "(let ((a 1)) a) (let ((b 2)) b)", "const 0; setlocal 0; local 0; void; setlocal 0; pop; const 1; setlocal 0; local 0; return")
	heads(t, "(let ((a 1)) a) (let ((b 2)) b) (let ((c 3)) c)", "main 0 1 2 0")
	bodies(t, "(lambda (a) (if a (let ((b a)) b) (let ((c a)) c)))", "closure 1; return", "local 0; branch 6; local 0; setlocal 1; local 1; return; local 0; setlocal 1; local 1; return")
	heads(t, "(lambda (a) (if a (let ((b a) (c a)) b) (let ((d a)) d)))", "main 0 0 1 0", "lambda 1 3 2 0")
	bodies(t, "(let ((a (let ((b 1) (c 2)) c)) (d (let ((e 3)) e))) a)", "const 0; const 1; setlocal 1; setlocal 0; local 1; void; setlocal 0; void; setlocal 1; const 2; setlocal 0; local 0; void; setlocal 0; setlocal 1; setlocal 0; local 0; return")
	bodies(t, "(let ((a 1)) (let ((b 2) (c 3)) c) (let ((d 4)) d a))", "const 0; setlocal 0; const 1; const 2; setlocal 2; setlocal 1; local 2; void; setlocal 1; void; setlocal 2; pop; const 3; setlocal 1; local 1; pop; local 0; return")
	bodies(t, "(letrec ((a (let ((b 1)) b)) (c 2)) (let ((d 3)) d))", "fresh; setlocal 0; fresh; setlocal 1; local 0; const 0; setlocal 2; local 2; void; setlocal 2; setbox; local 1; const 1; setbox; const 2; setlocal 2; local 2; return")
	bodies(t, "(car (let ((a 1)) a) (let ((b 2)) b))", "prim car; const 0; setlocal 0; local 0; void; setlocal 0; const 1; setlocal 0; local 0; void; setlocal 0; tail 2")
}

// Depth is the greatest DEPTH behind an instruction.
func TestDepth(t *testing.T) {
	heads(t, "1", "main 0 0 1 0")
	heads(t, "1 2 3", "main 0 0 1 0")
	heads(t, "(car 1 2 3)", "main 0 0 4 0")
	heads(t, "(car 1 (cdr 2 (list 3 4)))", "main 0 0 7 0")
	heads(t, "(car (cdr 1 2 3) 4)", "main 0 0 5 0")
	heads(t, "(list)", "main 0 0 1 0")
	heads(t, "(car (list) (list))", "main 0 0 3 0")
	heads(t, "(if 1 2 3)", "main 0 0 1 0")
	heads(t, "(if 1 (car 2) 3)", "main 0 0 2 0")
	heads(t, "(if 1 2 (car 3))", "main 0 0 2 0")
	heads(t, "(car (if 1 2 (car 3)))", "main 0 0 3 0")
	heads(t, "(car (if 1 (car 2 3) 4) 5)", "main 0 0 4 0")
	heads(t, "(car (if (car 1 2) 3 4))", "main 0 0 4 0")
	heads(t, "(define x (car 1))", "main 0 0 2 0")
	heads(t, "(lambda (x) (set! x 1))", "main 0 0 1 0", "lambda 1 1 2 0")
	heads(t, "(lambda (x) (car (set! x (car 1))))", "main 0 0 1 0", "lambda 1 1 4 0")
	heads(t, "(lambda (x y) (lambda () x y))", "main 0 0 1 0", "lambda 2 2 2 0", "lambda 0 0 1 2")
	heads(t, "(lambda (x y) (car (lambda () x y)))", "main 0 0 1 0", "lambda 2 2 3 0", "lambda 0 0 1 2")
	heads(t, "(handle 1)", "main 0 0 2 0", "body 0 0 1 0", "return 1 1 1 0")
	heads(t, "(handle 1 (a (x k) 1))", "main 0 0 4 0", "body 0 0 1 0", "return 1 1 1 0", "a 2 2 1 0")
	heads(t, "(let ((x 1)) x) 2", "main 0 1 2 0")
	heads(t, "(let ((x 1)) x)", "main 0 1 1 0")
	heads(t, "(perform a (car 1))", "main 0 0 2 0")
}

// main's body.
func TestMainsBody(t *testing.T) {
	bodies(t, "", "void; return")
	bodies(t, "1", "const 0; return")
	bodies(t, "1 2", "const 0; pop; const 1; return")
	bodies(t, "1 2 3", "const 0; pop; const 1; pop; const 2; return")
	bodies(t, "(car 1)", "prim car; const 0; tail 1")
	bodies(t, "(car 1) (car 2)", "prim car; const 0; call 1; pop; prim car; const 1; tail 1")
	bodies(t, "(define x 1)", "const 0; defglobal 0; void; return")
	bodies(t, "(define x 1) (define y 2)", "const 0; defglobal 0; void; pop; const 1; defglobal 1; void; return")
	bodies(t, "(begin 1 2) (begin (car 3) (car 4))", "const 0; pop; const 1; pop; prim car; const 2; call 1; pop; prim car; const 3; tail 1")
	bodies(t, "(if 1 2 3) (if 1 2 3)", "const 0; branch 4; const 1; jump 5; const 2; pop; const 0; branch 10; const 1; return; const 2; return")
	bodies(t, "(let ((x 1)) x) (let ((x 1)) x)", "const 0; setlocal 0; local 0; void; setlocal 0; pop; const 0; setlocal 0; local 0; return")
}
