package compile_test

import (
	"strconv"
	"strings"
	"testing"

	"distaff/api"
)

// P12.3

func TestConst(t *testing.T) {
	for _, d := range []string{"7", "1.5", "#t", "#f", "#\\a", "\"text\"", "'a", "'()", "'(a . b)", "#(a)", "'#(a)"} {
		bodies(t, d, "const 0; return")
		bodies(t, d+" 1", "const 0; pop; const 1; return")
	}
}

func TestVoid(t *testing.T) {
	bodies(t, "(if 1 2)", "const 0; branch 4; const 1; return; void; return")
	bodies(t, "(car (if 1 2))", "prim car; const 0; branch 5; const 1; jump 6; void; tail 1")
	bodies(t, "(cond)", "void; return")
	bodies(t, "(cond) (cond)", "void; pop; void; return")
	bodies(t, "(perform a)", "void; perform 0; return")
}

func TestVariable(t *testing.T) {
	// LOCAL, in a slot.
	bodies(t, "(lambda (a b) b)", "closure 1; return", "local 1; return")
	bodies(t, "(lambda (a b) b a)", "closure 1; return", "local 1; pop; local 0; return")
	bodies(t, "(let ((a 1)) a)", "const 0; setlocal 0; local 0; return")
	// LOCAL, in a free value.
	bodies(t, "(lambda (a b) (lambda (c) b a))", "closure 1; return", "local 1; local 0; closure 2; return", "free 0; pop; free 1; return")
	// The same, CHANGING.
	bodies(t, "(lambda (a) (set! a 1) a)", "closure 1; return", "local 0; box; setlocal 0; local 0; const 0; setbox; void; pop; local 0; unbox; return")
	bodies(t, "(lambda (a) (car a) (set! a 1))", "closure 1; return", "local 0; box; setlocal 0; prim car; local 0; unbox; call 1; pop; local 0; const 0; setbox; void; return")
	bodies(t, "(lambda (a) (set! a 1) (lambda () (car a) a))", "closure 1; return", "local 0; box; setlocal 0; local 0; const 0; setbox; void; pop; local 0; closure 2; return", "prim car; free 0; unbox; call 1; pop; free 0; unbox; return")
	bodies(t, "(letrec ((a (lambda () a))) a)", "fresh; setlocal 0; local 0; local 0; closure 1; setbox; local 0; unbox; return", "free 0; unbox; return")
	// Among the Globals, CHANGING or not.
	bodies(t, "(define a 1) (define b 2) b", "const 0; defglobal 0; void; pop; const 1; defglobal 1; void; pop; global 1; return")
	bodies(t, "b (set! b a) (define a 1) (define b 2)", "global 1; pop; global 0; setglobal 1; void; pop; const 0; defglobal 0; void; pop; const 1; defglobal 1; void; return")
	// A primitive.
	bodies(t, "car", "prim car; return")
	bodies(t, "(car cdr)", "prim car; prim cdr; tail 1")
	bodies(t, "(lambda () void)", "closure 1; return", "prim void; return")
}

// Each primitive has the number of its place.
func TestPrimitives(t *testing.T) {
	l := strings.Fields(api.Prims)
	if len(l) != 118 {
		t.Fatal(len(l))
	}
	for i, name := range l {
		c := program(t, name)
		if x := c.Procs[0].Code[0]; x != (api.Instr{Op: api.IPrim, A: i}) {
			t.Errorf("%s: %v", name, x)
		}
	}
	if c := program(t, "+"); c.Procs[0].Code[0].A != 0 {
		t.Error(told(c))
	}
	if c := program(t, "void"); c.Procs[0].Code[0].A != 117 {
		t.Error(told(c))
	}
}

func TestSet(t *testing.T) {
	bodies(t, "(lambda (a b) (set! b 1) 2)", "closure 1; return", "local 1; box; setlocal 1; local 1; const 0; setbox; void; pop; const 1; return")
	bodies(t, "(lambda (a b) (set! b (car a)))", "closure 1; return", "local 1; box; setlocal 1; local 1; prim car; local 0; call 1; setbox; void; return")
	bodies(t, "(lambda (a) (lambda () (set! a a) 1))", "closure 1; return", "local 0; box; setlocal 0; local 0; closure 2; return", "free 0; free 0; unbox; setbox; void; pop; const 0; return")
	bodies(t, "(let ((a 1)) (set! a 2))", "const 0; box; setlocal 0; local 0; const 1; setbox; void; return")
	bodies(t, "(define a 1) (set! a (car 2))", "const 0; defglobal 0; void; pop; prim car; const 1; call 1; setglobal 0; void; return")
	bodies(t, "(define a 1) (define b 2) (car (set! b 3))", "const 0; defglobal 0; void; pop; const 1; defglobal 1; void; pop; prim car; const 2; setglobal 1; void; tail 1")
	bodies(t, "(define a 1) (set! a (set! a 2)) 3", "const 0; defglobal 0; void; pop; const 1; setglobal 0; void; setglobal 0; void; pop; const 2; return")
}

func TestDefine(t *testing.T) {
	bodies(t, "(define a (car 1))", "prim car; const 0; call 1; defglobal 0; void; return")
	bodies(t, "(define a a) (define b a) a", "global 0; defglobal 0; void; pop; global 0; defglobal 1; void; pop; global 0; return")
	bodies(t, "(define (f a) (f a))", "closure 1; defglobal 0; void; return", "global 0; local 0; tail 1")
}

func TestIf(t *testing.T) {
	bodies(t, "(if 1 2 3)", "const 0; branch 4; const 1; return; const 2; return")
	bodies(t, "(if 1 2 3) 4", "const 0; branch 4; const 1; jump 5; const 2; pop; const 3; return")
	bodies(t, "(if (car 1) (car 2) (car 3))", "prim car; const 0; call 1; branch 7; prim car; const 1; tail 1; prim car; const 2; tail 1")
	bodies(t, "(list (if (car 1) (car 2) (car 3)) 4)", "prim list; prim car; const 0; call 1; branch 9; prim car; const 1; call 1; jump 12; prim car; const 2; call 1; const 3; tail 2")
	bodies(t, "(if (if 1 2 3) 4 5)", "const 0; branch 4; const 1; jump 5; const 2; branch 8; const 3; return; const 4; return")
	bodies(t, "(if 1 (if 2 3 4) (if 5 6 7))", "const 0; branch 8; const 1; branch 6; const 2; return; const 3; return; const 4; branch 12; const 5; return; const 6; return")
	bodies(t, "(car (if 1 (if 2 3 4) (if 5 6 7)))", "prim car; const 0; branch 9; const 1; branch 7; const 2; jump 8; const 3; jump 14; const 4; branch 13; const 5; jump 14; const 6; tail 1")
	bodies(t, "(lambda (a) (if a (begin 1 a) (let ((b a)) b)) 2)", "closure 1; return", "local 0; branch 6; const 0; pop; local 0; jump 11; local 0; setlocal 1; local 1; void; setlocal 1; pop; const 1; return")
	bodies(t, "(and 1 2) (or 3 4)", "const 0; branch 4; const 1; jump 5; const 2; pop; const 3; setlocal 0; local 0; branch 12; local 0; return; const 4; return")
}

func TestSequence(t *testing.T) {
	bodies(t, "(lambda () 1 2 3)", "closure 1; return", "const 0; pop; const 1; pop; const 2; return")
	bodies(t, "(car (begin 1 2 3))", "prim car; const 0; pop; const 1; pop; const 2; tail 1")
	bodies(t, "(lambda () (car 1) (car 2))", "closure 1; return", "prim car; const 0; call 1; pop; prim car; const 1; tail 1")
	bodies(t, "(list (begin (car 1) (car 2)))", "prim list; prim car; const 0; call 1; pop; prim car; const 1; call 1; tail 1")
	bodies(t, "(if 1 (begin 2 3) (begin 4 (car 5)))", "const 0; branch 6; const 1; pop; const 2; return; const 3; pop; prim car; const 4; tail 1")
}

func TestCall(t *testing.T) {
	bodies(t, "(list)", "prim list; tail 0")
	bodies(t, "(list) 1", "prim list; call 0; pop; const 0; return")
	bodies(t, "(list 1 2 3)", "prim list; const 0; const 1; const 2; tail 3")
	bodies(t, "(list (list 1 2) 3)", "prim list; prim list; const 0; const 1; call 2; const 2; tail 2")
	bodies(t, "((list 1) (car 2))", "prim list; const 0; call 1; prim car; const 1; call 1; tail 1")
	bodies(t, "((lambda (a) a) 1)", "closure 1; const 0; tail 1", "local 0; return")
	bodies(t, "(1)", "const 0; tail 0")
	bodies(t, "(lambda (a) (a a a))", "closure 1; return", "local 0; local 0; local 0; tail 2")
}

func TestLambda(t *testing.T) {
	bodies(t, "(lambda () 1)", "closure 1; return", "const 0; return")
	bodies(t, "(list (lambda () 1))", "prim list; closure 1; tail 1", "const 0; return")
	heads(t, "(define f (lambda () 1)) (let ((g (lambda () 2))) (lambda () 3))", "main 0 1 1 0", "lambda 0 0 1 0", "lambda 0 0 1 0", "lambda 0 0 1 0")
	bodies(t, "(lambda (a b) (list (lambda () b a) 1))", "closure 1; return", "prim list; local 1; local 0; closure 2; const 0; tail 2", "free 0; pop; free 1; return")
	// A box is handed on as it is.
	bodies(t, "(lambda (a) (lambda () a (set! a 1)) a)", "closure 1; return", "local 0; box; setlocal 0; local 0; closure 2; pop; local 0; unbox; return", "free 0; unbox; pop; free 0; const 0; setbox; void; return")
	bodies(t, "(lambda (a) (set! a 1) (lambda () (lambda () a)))", "closure 1; return", "local 0; box; setlocal 0; local 0; const 0; setbox; void; pop; local 0; closure 2; return", "free 0; closure 3; return", "free 0; unbox; return")
}

// A procedure is begun ahead of the PLACES of its free values: what these have for the first time has later numbers.
func TestProceduresAreBegunAheadOfTheirPlaces(t *testing.T) {
	bodies(t, "(lambda (a b c) (lambda (d) (lambda () c a)))", "closure 1; return", "local 2; local 0; closure 2; return", "free 0; free 1; closure 3; return", "free 0; pop; free 1; return")
	bodies(t, "(lambda (a b c) (lambda (d) (lambda () c a) b))", "closure 1; return", "local 2; local 0; local 1; closure 2; return", "free 0; free 1; closure 3; pop; free 2; return", "free 0; pop; free 1; return")
	bodies(t, "(lambda (a) (lambda () (lambda () a)) (lambda () a))", "closure 1; return", "local 0; closure 2; pop; local 0; closure 4; return", "free 0; closure 3; return", "free 0; return", "free 0; return")
}

func TestLet(t *testing.T) {
	bodies(t, "(let ((a 1)) 2)", "const 0; setlocal 0; const 1; return")
	bodies(t, "(let ((a 1) (b 2) (c 3)) b)", "const 0; const 1; const 2; setlocal 2; setlocal 1; setlocal 0; local 1; return")
	bodies(t, "(list (let ((a 1) (b 2) (c 3)) b))", "prim list; const 0; const 1; const 2; setlocal 2; setlocal 1; setlocal 0; local 1; void; setlocal 0; void; setlocal 1; void; setlocal 2; tail 1")
	bodies(t, "(let () 1) (let () 2)", "const 0; pop; const 1; return")
	bodies(t, "(let ((a 1)) (car a))", "const 0; setlocal 0; prim car; local 0; tail 1")
	bodies(t, "(let ((a (car 1)) (b (car 2))) (car a)) 3", "prim car; const 0; call 1; prim car; const 1; call 1; setlocal 1; setlocal 0; prim car; local 0; call 1; void; setlocal 0; void; setlocal 1; pop; const 2; return")
	bodies(t, "(let ((a 1) (b 2) (c 3)) (set! c 4) (set! a b))", "const 0; box; const 1; const 2; box; setlocal 2; setlocal 1; setlocal 0; local 2; const 3; setbox; void; pop; local 0; local 1; setbox; void; return")
	bodies(t, "(lambda (a) (let ((b a) (c a)) (lambda () c b)))", "closure 1; return", "local 0; local 0; setlocal 2; setlocal 1; local 2; local 1; closure 2; return", "free 0; pop; free 1; return")
	bodies(t, "(let ((a 1)) (let ((b a)) a b) 2)", "const 0; setlocal 0; local 0; setlocal 1; local 0; pop; local 1; void; setlocal 1; pop; const 1; return")
	bodies(t, "(let* ((a 1) (b a)) (list a b))", "const 0; setlocal 0; local 0; setlocal 1; prim list; local 0; local 1; tail 2")
}

func TestLetrec(t *testing.T) {
	bodies(t, "(letrec ((a 1)) 2)", "fresh; setlocal 0; local 0; const 0; setbox; const 1; return")
	bodies(t, "(letrec () 1) (letrec () 2)", "const 0; pop; const 1; return")
	bodies(t, "(letrec ((a 1) (b 2) (c 3)) b)", "fresh; setlocal 0; fresh; setlocal 1; fresh; setlocal 2; local 0; const 0; setbox; local 1; const 1; setbox; local 2; const 2; setbox; local 1; unbox; return")
	bodies(t, "(list (letrec ((a 1) (b 2)) b))", "prim list; fresh; setlocal 0; fresh; setlocal 1; local 0; const 0; setbox; local 1; const 1; setbox; local 1; unbox; void; setlocal 0; void; setlocal 1; tail 1")
	bodies(t, "(letrec ((f (lambda (x) (g x))) (g (lambda (x) (f x)))) (f 1))", "fresh; setlocal 0; fresh; setlocal 1; local 0; local 1; closure 1; setbox; local 1; local 0; closure 2; setbox; local 0; unbox; const 0; tail 1", "free 0; unbox; local 0; tail 1", "free 0; unbox; local 0; tail 1")
	bodies(t, "(lambda (a) (letrec ((b a) (c b)) (set! b c)))", "closure 1; return", "fresh; setlocal 1; fresh; setlocal 2; local 1; local 0; setbox; local 2; local 1; unbox; setbox; local 1; local 2; unbox; setbox; void; return")
	bodies(t, "(lambda () (define a 1) (define (b) a) (b))", "closure 1; return", "fresh; setlocal 0; fresh; setlocal 1; local 0; const 0; setbox; local 1; local 0; closure 2; setbox; local 1; unbox; tail 0", "free 0; unbox; return")
	bodies(t, "(let f ((x 1)) (f x))", "fresh; setlocal 0; local 0; local 0; closure 1; setbox; local 0; unbox; void; setlocal 0; const 0; tail 1", "free 0; unbox; local 0; tail 1")
	bodies(t, "(letrec ((a (car 1))) (car a)) 2", "fresh; setlocal 0; local 0; prim car; const 0; call 1; setbox; prim car; local 0; unbox; call 1; void; setlocal 0; pop; const 1; return")
}

func TestPerform(t *testing.T) {
	bodies(t, "(perform ask 1)", "const 0; perform 1; return")
	bodies(t, "(perform ask 1) 2", "const 0; perform 1; pop; const 2; return")
	bodies(t, "(perform ask (car 1))", "prim car; const 0; call 1; perform 1; return")
	bodies(t, "(perform ask (perform tell))", "void; perform 0; perform 1; return")
	bodies(t, "(lambda (x) (list (perform ask x)))", "closure 1; return", "prim list; local 0; perform 0; tail 1")
	bodies(t, "(define ask 1) (let ((ask 2)) (perform ask ask))", "const 0; defglobal 0; void; pop; const 1; setlocal 0; local 0; perform 2; return")
}

func TestHandle(t *testing.T) {
	bodies(t, "(handle 1)", "closure 1; closure 2; handle 0 3; return", "const 0; return", "local 0; return")
	bodies(t, "(handle 1 (return (x) 2) (a (x k) 3) (b (y j) 4))", "closure 1; closure 2; const 2; closure 3; const 4; closure 4; handle 2 3; return", "const 0; return", "const 1; return", "const 3; return", "const 5; return")
	heads(t, "(handle 1 (b (y j) 4) (a (x k) 3) (return (x) 2))", "main 0 0 6 0", "body 0 0 1 0", "return 1 1 1 0", "b 2 2 1 0", "a 2 2 1 0")
	heads(t, "(handle 1 (lambda (x k) 1) (body (x k) 2) (main (x k) 3))", "main 0 0 8 0", "body 0 0 1 0", "return 1 1 1 0", "lambda 2 2 1 0", "body 2 2 1 0", "main 2 2 1 0")
	bodies(t, "(lambda (a b c d) (handle (car d c) (return (x) (list x b)) (l (x k) (k a x))))", "closure 1; return",
		"local 3; local 2; closure 2; local 1; closure 3; const 0; local 0; closure 4; handle 1 3; return",
		"prim car; free 0; free 1; tail 2", "prim list; local 0; free 0; tail 2", "local 1; free 0; local 0; tail 2")
	bodies(t, "(lambda (a) (set! a 1) (handle a (return (x) a) (l (x k) a)))", "closure 1; return",
		"local 0; box; setlocal 0; local 0; const 0; setbox; void; pop; local 0; closure 2; local 0; closure 3; const 1; local 0; closure 4; handle 1 3; return",
		"free 0; unbox; return", "free 0; unbox; return", "free 0; unbox; return")
	bodies(t, "(handle (handle-shallow 1))", "closure 1; closure 4; handle 0 3; return", "closure 2; closure 3; handle 0 2; return", "const 0; return", "local 0; return", "local 0; return")
}

// B: whether it is deep, and whether it stands in TAIL place.
func TestHandleB(t *testing.T) {
	for i, form := range []string{"(handle-shallow 1 (a (x k) 2))", "(handle 1 (a (x k) 2))"} {
		b := func(n int) string { return strconv.Itoa(i + n) }
		procs := []string{"const 0; return", "local 0; return", "const 2; return"}
		made := "closure 1; closure 2; const 1; closure 3; handle 1 "
		bodies(t, form, append([]string{made + b(2) + "; return"}, procs...)...)
		bodies(t, form+" 2", append([]string{made + b(0) + "; pop; const 2; return"}, procs...)...)
		bodies(t, "(define x "+form+")", append([]string{made + b(0) + "; defglobal 0; void; return"}, procs...)...)
		bodies(t, "(let ((x "+form+")) x)", append([]string{made + b(0) + "; setlocal 0; local 0; return"}, procs...)...)
		bodies(t, "(begin car "+form+")", append([]string{"prim car; pop; " + made + b(2) + "; return"}, procs...)...)
		bodies(t, "(car "+form+")", append([]string{"prim car; " + made + b(0) + "; tail 1"}, procs...)...)
		bodies(t, "(if car cdr "+form+")", append([]string{"prim car; branch 4; prim cdr; return; " + made + b(2) + "; return"}, procs...)...)
		bodies(t, "(if car cdr "+form+") car", append([]string{"prim car; branch 4; prim cdr; jump 9; " + made + b(0) + "; pop; prim car; return"}, procs...)...)
		bodies(t, "(let ((x car)) "+form+")", append([]string{"prim car; setlocal 0; " + made + b(2) + "; return"}, procs...)...)
	}
}

// One of each within one another.
func TestOneOfEach(t *testing.T) {
	bodies(t, `(define (go n)
		(handle-shallow
			(let loop ((i n) (l '()))
				(if (= i 0) (reverse l) (loop (- i 1) (cons (perform next i) l))))
			(return (l) (set! n l) n)
			(next (i k) (let ((r (resume k (* i i)))) (begin (display r) r)))))
		(go 3)`,
		"closure 1; defglobal 0; void; pop; global 0; const 4; tail 1",
		"local 0; box; setlocal 0; local 0; closure 2; local 0; closure 4; const 2; closure 5; handle 1 2; return",
		"fresh; setlocal 0; local 0; local 0; closure 3; setbox; local 0; unbox; void; setlocal 0; free 0; unbox; const 3; tail 2",
		"prim =; local 0; const 0; call 2; branch 8; prim reverse; local 1; tail 1; free 0; unbox; prim -; local 0; const 1; call 2; prim cons; local 0; perform 2; local 1; call 2; tail 2",
		"free 0; local 0; setbox; void; pop; free 0; unbox; return",
		"prim resume; local 1; prim *; local 0; local 0; call 2; call 2; setlocal 2; prim display; local 2; call 1; pop; local 2; return")
}
