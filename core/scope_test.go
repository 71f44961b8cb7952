package core_test

import (
	"strconv"
	"strings"
	"testing"

	"distaff/api"
	"distaff/core"
)

// P8.5

// scoped complains, if x isn't bound at @ in a form, or is, as it should be.
func scoped(t *testing.T, bound bool, forms ...string) {
	t.Helper()
	for _, form := range forms {
		for _, use := range []string{"@", "(@)", "(car 1 @)", "(set! @ 1)", "(set! y @)", "(lambda (y) @)", "(if 1 (begin 2 @) 3)", "(lambda () (define z @) 1)", "`(1 ,@)", "(cond (1 => @))", "(perform l @)", "(handle 1 (l (y k) @))", "(let ((z @)) 1)", "(do ((z 1 @)) (1))"} {
			text := "(define y 0) 1 " + strings.ReplaceAll(form, "@", strings.ReplaceAll(use, "@", "x")) + " 2"
			if !bound {
				fails(t, text, api.ErrScope, 2)
			} else if _, fault := core.Make(read(t, text)); fault != (api.Fault{}) {
				t.Errorf("%s: %v", text, fault)
			}
		}
	}
}

func TestScopesOfLambdas(t *testing.T) {
	scoped(t, true, "(lambda (x) @)", "(lambda (y x) @)", "(lambda (x z) @)", "(lambda x @)", "(lambda (x . z) @)", "(lambda (z . x) @)", "(lambda (x) (lambda (z) @))", "(lambda (x) 1 @ 2)", "(define (f x) @)", "(define (f . x) @)", "((lambda (x) @) 1)")
	scoped(t, false, "@", "(lambda () @)", "(lambda (z) @)", "(lambda z @)", "((lambda (x) x) @)", "(car (lambda (x) x) @)", "(begin (lambda (x) x) @)", "(define (f) @)", "(lambda (z) (car (lambda (x) x) @))", "(car @ (lambda (x) x))", "(if (lambda (x) 1) (lambda x 2) @)", "(lambda () (lambda (x) 1) @)")
}

func TestScopesOfLets(t *testing.T) {
	scoped(t, true, "(let ((x 1)) @)", "(let ((z 1) (x 2)) z @)", "(let ((x 1)) (let ((z @)) 1))", "(let ((x 1)) (let ((x @)) x))", "(let* ((x 1)) @)", "(let* ((x 1) (z @)) z)", "(let* ((x 1) (x @)) x)", "(let* ((z 1) (x z)) @)", "(letrec ((x @)) 1)", "(letrec ((x 1)) @)", "(letrec ((z @) (x 1)) 1)", "(letrec ((x 1) (z @)) 1)", "(letrec* ((z @) (x 1)) 1)", "(letrec ((z 1) (x 2)) @)")
	scoped(t, false, "(let ((x @)) 1)", "(let ((x @)) x)", "(let ((x 1) (z @)) x)", "(let ((z @) (x 1)) x)", "(let ((z 1)) @)", "(let* ((x @)) x)", "(let* ((z @) (x 1)) x)", "(let* ((x @) (x 1)) x)", "(letrec ((z @)) z)", "(letrec ((z 1)) @)", "(car (let ((x 1)) x) @)", "(car (letrec ((x 1)) x) @)", "(car (let* ((x 1)) x) @)", "(let () @)", "(let ((z (let ((x 1)) x))) @)")
}

func TestScopesOfLoops(t *testing.T) {
	scoped(t, true, "(let x () @)", "(let x ((z 1)) @)", "(let z ((x 1)) @)", "(let z ((w 1) (x 2)) w @)", "(do ((x 1)) (@))", "(do ((x 1)) (1 @))", "(do ((x 1)) (1) @)", "(do ((x 1 @)) (1))", "(do ((z 1 @) (x 1)) (1))", "(do ((x 1) (z 1 @)) (1) 1)")
	scoped(t, false, "(let x ((z @)) (x z))", "(let z ((x @)) x)", "(let z ((x 1) (w @)) x)", "(let z () @)", "(do ((x @)) (1))", "(do ((x @ x)) (x) x)", "(do ((z @) (x 1)) (1))", "(do ((x 1) (z @)) (1))", "(do ((z 1)) (@))", "(do ((z 1)) (1) @)", "(do ((z 1)) (1 @))", "(do ((z 1 @)) (1))", "(car (do ((x 1)) (x) x) @)", "(car (let x () x) @)")
}

func TestScopesOfBodies(t *testing.T) {
	scoped(t, true, "(lambda () (define x 1) @)", "(lambda () (define x @) 1)", "(lambda () (define z @) (define x 1) 1)", "(lambda () (define x 1) (define (z) @) 1)", "(lambda () (define (z) @) (define x 1) 1)", "(lambda () (define (x) @) 1)", "(lambda () (define (z x) @) 1)", "(lambda () (define z 1) (define x 2) (lambda () @))")
	scoped(t, false, "(lambda () (define z @) 1)", "(lambda () (define (z x) x) @)", "(lambda () (define (z x) x) (define w @) 1)", "(car (lambda () (define x 1) x) @)", "(define z @)", "(lambda () (define z 1) @)", "(lambda () (car (lambda () (define x 1) x) @))")
}

func TestScopesOfHandlers(t *testing.T) {
	for _, keyword := range []string{"handle", "handle-shallow"} {
		tries := func(bound bool, texts ...string) {
			t.Helper()
			for _, text := range texts {
				scoped(t, bound, "("+keyword+" "+text+")")
			}
		}
		tries(true, "1 (return (x) @)", "1 (return (x) 1 @)", "1 (l (x k) @)", "1 (l (k x) @)", "1 (m (z k) k) (l (x k) @)", "1 (l (x k) @) (m (z k) k)", "1 (return (z) 1) (l (x k) @)", "1 (l (x k) 1 @ 2)", "1 (l (x k) (define z @) z)")
		tries(false, "@ (return (x) x)", "@ (l (x k) x)", "@ (l (k x) x)", "1 (return (z) @)", "1 (return (z) @) (l (x k) x)", "1 (return (x) x) (l (z k) @)", "1 (l (x k) x) (m (z k) @)", "1 (m (z k) @) (l (x k) x)", "1 (x (z k) @)", "1 (l (k x) x) (return (z) @)", "@")
		scoped(t, false, "(car ("+keyword+" 1 (return (x) x)) @)", "(car ("+keyword+" 1 (l (x k) x)) @)", "(car ("+keyword+" 1 (l (k x) x)) @)", "(perform x @)")
	}
}

// What is bound by no name of the program is bound where it is asked for, and a name of the program isn't.
func TestScopesOfWhatIsKept(t *testing.T) {
	scoped(t, true, "(lambda (x) (or 1 @ 2))", "(lambda (x) (cond (1) (@) (1 => @) (else @)))", "(lambda (x) (case @ ((1) @) (else @)))", "(lambda (x) (and @ @))", "(lambda (x) (when @ @))", "(lambda (x) (unless @ @))")
	scoped(t, false, "(or 1 @)", "(or @ 1)", "(cond (1) (@))", "(cond (@ => car))", "(case @ ((x) 1))", "(case 1 ((x) @))", "(case 1 ((x) 1) (else @))", "(and 1 @)", "(when 1 @)", "(unless @ 1)", "(if 1 2 @)")
	for _, text := range []string{"(car t)", "(or 1 t)", "(cond (1 => t))", "(handle 1 (m (x k) t))", "(case 1 ((1) t))", "l", "(do () (1) l)"} {
		fails(t, text, api.ErrScope, 0)
	}
}

func TestScopesOfDefinitions(t *testing.T) {
	makes(t, "(define x 1) x", "(define x '1)", "x")
	makes(t, "x (define x 1)", "x", "(define x '1)")
	makes(t, "(x) (set! x 2) (lambda () x) (begin 1 (begin (define x x)))", "[x]", "(set! x '2)", "(lambda () x)", "'1", "(define x x)")
	makes(t, "(define (f) (g)) (define (g) (f))", "(define f (lambda () [g]))", "(define g (lambda () [f]))")
	makes(t, "(lambda (x) x) x (define x 1)", "(lambda (x) x)", "x", "(define x '1)")
	fails(t, "(define x y)", api.ErrScope, 0)
	fails(t, "(define x 1) (define y x) z (define w 1)", api.ErrScope, 2)
	fails(t, "(lambda () (define x 1) x) x", api.ErrScope, 1)
	fails(t, "(define (f x) x) x", api.ErrScope, 1)
	fails(t, "(lambda (x) x) x", api.ErrScope, 1)
	fails(t, "(handle x (return (x) x)) (define y 1)", api.ErrScope, 0)
	fails(t, "(define X 1) x", api.ErrScope, 1)
	fails(t, "(define x1 1) x", api.ErrScope, 1)
	fails(t, "(perform x 1) (define y 1) x", api.ErrScope, 2)
	fails(t, "(handle 1 (x (y k) 1)) x", api.ErrScope, 1)
	fails(t, "'x '(define x 1) x", api.ErrScope, 2)
}

func TestTheFirstUnboundNameCounts(t *testing.T) {
	fails(t, "1 x 2 y", api.ErrScope, 1)
	fails(t, "(begin 1 2 3) (begin 4 (begin x)) y", api.ErrScope, 1)
	fails(t, "(begin 1 2 3) 4 (begin 5 6 (car (lambda (x) y))) y", api.ErrScope, 2)
	fails(t, "(define y 1) (set! z 1) x", api.ErrScope, 1)
	fails(t, strings.Repeat("(begin 1 2) ", 50)+"x", api.ErrScope, 50)
}

// Primitives are bound everywhere, and nothing that only looks like one.
func TestPrimitivesAreBound(t *testing.T) {
	for _, name := range strings.Fields(api.Prims) {
		makes(t, name, name)
		makes(t, "(lambda (x) ("+name+" x))", "(lambda (x) ["+name+" x])")
		fails(t, name+"x", api.ErrScope, 0)
		fails(t, "(lambda (x) (set! "+name+"x x))", api.ErrScope, 0)
	}
	for _, name := range []string{"ca", "ar", "lis", "ist", "->list", "list-", "string", "vector->", "CAR", "map", "for-each", "list*", "memq", "display1"} {
		fails(t, "car "+name, api.ErrScope, 1)
	}
}

func TestScopesOfManyNames(t *testing.T) {
	var rows, uses strings.Builder
	for i := range 500 {
		rows.WriteString("(x" + strconv.Itoa(i) + " 1)")
		uses.WriteString(" x" + strconv.Itoa(i))
	}
	for _, keyword := range []string{"let", "letrec", "let*"} {
		if _, fault := core.Make(read(t, "("+keyword+" ("+rows.String()+")"+uses.String()+")")); fault != (api.Fault{}) {
			t.Error(keyword, fault)
		}
		fails(t, "("+keyword+" ("+rows.String()+")"+uses.String()+" y)", api.ErrScope, 0)
		fails(t, "("+keyword+" ("+rows.String()+") 1) x", api.ErrScope, 1)
	}
}
