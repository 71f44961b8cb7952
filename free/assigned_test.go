package free_test

import (
	"slices"
	"strings"
	"testing"

	"distaff/free"
)

// P9.2, Assigned

func TestAssignedOfEachKind(t *testing.T) {
	for _, text := range []string{"'x", "1", "x", "car", "(if a b c)", "(if a b)", "(lambda (x . y) x y z)", "(lambda x x)", "(a b c)", "(let ((x a) (y b)) x y c)", "(letrec () a)", "(handle a (return (x) x b) (l (y k) y k c))", "(perform x y)", "(perform x)", "(define a b)", "(or a b)", "(let* ((x a) (y x)) y)"} {
		assigns(t, text, "")
	}
	assigns(t, "(set! x 1)", "x")
	assigns(t, "(letrec ((x a)) b)", "x")
	assigns(t, "(letrec ((x a) (y b)) c)", "x y")
	assigns(t, "(let f ((x a)) (f x))", "f")
	assigns(t, "(do ((x a b)) (c) d)", "{l}")
	assigns(t, "(lambda (x) (define y 1) (define (z) y) (z))", "y z")
}

// A name may be bound there, or not: it changes.
func TestAssignedOfWhatIsBoundThereAndWhatIsNot(t *testing.T) {
	for _, text := range []string{"(car *)", "(lambda (x) *)", "(lambda x *)", "(lambda (y) *)", "(let ((x 1)) *)", "(let ((x *)) 1)", "(let ((y *)) 1)", "(handle * (return (x) 1))", "(handle 1 (return (x) *))", "(handle 1 (l (x k) *))", "(handle 1 (l (k x) *))", "(handle-shallow 1 (l (y k) *))", "(if * 1 2)", "(if 1 * 2)", "(if 1 2 *)", "(perform l *)", "(* 1)", "(begin * 1)", "(lambda () 1 * 2)", "(lambda () 1 *)", "(handle 1 (l (x k) 1) (m (x k) *))"} {
		assigns(t, strings.Replace("(car "+text+")", "*", "(set! x 1)", 1), "x")
		assigns(t, strings.Replace("(car "+text+")", "*", "(letrec ((x 1)) x)", 1), "x")
		assigns(t, strings.Replace("(car "+text+")", "*", "(lambda (z) (set! x x))", 1), "x")
		assigns(t, strings.Replace("(car "+text+")", "*", "(set! a b)", 1), "a")
	}
	assigns(t, "(define f (set! x 1))", "x")
	assigns(t, "(define f (set! f 1))", "f")
}

func TestAssignedHasEachNameOnce(t *testing.T) {
	assigns(t, "(car (set! x 1) (set! y 2) (set! x 3) (set! y 4))", "x y")
	assigns(t, "(set! x (set! x 1))", "x")
	assigns(t, "(letrec ((x (set! x 1))) (set! x 2))", "x")
	assigns(t, "(car (set! x 1) (letrec ((x 1)) x) (letrec ((x 2) (y 3)) x))", "x y")
	assigns(t, "(car (lambda (x) (set! x 1)) (lambda (x) (set! x 2)))", "x")
	assigns(t, "(handle (set! x 1) (return (y) (set! x 2)) (l (y k) (set! x 3)) (m (y k) (set! x 4)))", "x")
}

func TestAssignedIsInTheOrderOfMeeting(t *testing.T) {
	assigns(t, "(set! x (set! y (set! z 1)))", "x y z")
	assigns(t, "(set! z (letrec ((x (set! a 1)) (y (set! b 1))) (set! c 1)))", "z x y a b c")
	assigns(t, "(letrec ((y (letrec ((b 1) (a 2)) 3)) (x (set! z 1))) (letrec ((c 1)) (set! d 2)))", "y x b a z c d")
	assigns(t, "(car (set! z 1) (lambda (x) (set! x 1)) (set! y 2))", "z x y")
	assigns(t, "(if (set! c 1) (set! b 1) (set! a 1))", "c b a")
	assigns(t, "(let ((x (set! z 1)) (y (set! a 1))) (set! x 1))", "z a x")
	assigns(t, "(handle (set! z 1) (l (x k) (set! x 1)) (return (y) (set! y 1)) (m (x k) (set! k 1)))", "z y x k")
	assigns(t, "(car (handle 1 (l (x k) (set! z 1)) (m (x k) (set! c 1))) (set! a 1))", "z c a")
}

func TestAssignedOfUniqueTerms(t *testing.T) {
	l := free.Unique(made(t, "(lambda (x) (set! x 1)) (define (f x) (define y x) (set! x y) (set! f y))"))
	if got := slices.Concat(free.Assigned(l[0]), free.Assigned(l[1])); !slices.Equal(got, []string{"x 1", "y 3", "x 2", "f"}) {
		t.Errorf("%q", got)
	}
}
