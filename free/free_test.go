package free_test

import (
	"slices"
	"strings"
	"testing"

	"distaff/api"
	"distaff/free"
)

// P9.2, Free

func TestFreeOfEachKind(t *testing.T) {
	frees(t, "'x", "")
	frees(t, "1", "")
	frees(t, "x", "x")
	frees(t, "car", "car")
	frees(t, "(set! x 1)", "x")
	frees(t, "(if a b c)", "a b c")
	frees(t, "(if a b)", "a b")
	frees(t, "(lambda (x) x y)", "y")
	frees(t, "(lambda (x . y) x y z)", "z")
	frees(t, "(lambda x x z)", "z")
	frees(t, "(lambda () a b)", "a b")
	frees(t, "(a b c)", "a b c")
	frees(t, "(let ((x a) (y b)) x y c)", "a b c")
	frees(t, "(let () a)", "a")
	frees(t, "(letrec ((x a) (y b)) x y c)", "a b c")
	frees(t, "(letrec () a)", "a")
	frees(t, "(handle a (return (x) x b) (l (y k) y k c))", "a b c")
	frees(t, "(handle-shallow a (return (x) x b) (l (y k) y k c) (m (a b) a b d))", "a b c d")
	frees(t, "(handle a (l (x k) k x))", "a")
	frees(t, "(perform x y)", "y")
	frees(t, "(perform x)", "")
	frees(t, "(define a b)", "b")
	frees(t, "(define f 1)", "")
	frees(t, "(or a b)", "a b")
}

// What a do, and a let with a name, come to has the procedure ahead of the first values.
func TestFreeOfFormsThatComeToOthers(t *testing.T) {
	frees(t, "(do ((x a (y x))) ((b x)) c)", "b c y a")
	frees(t, "(let f ((x a)) (f x b))", "b a")
	frees(t, "(let* ((x a) (y x)) y b)", "a b")
	frees(t, "(cond (a => b) (c d))", "a b c d")
	frees(t, "(case a ((b) c) (else d))", "a memv c d")
	frees(t, "`(,a ,@b . c)", "cons a append b")
	frees(t, "(lambda (x) (define y a) (define (z) y z b) (z x))", "a b")
}

func TestFreeHasEachNameOnce(t *testing.T) {
	frees(t, "(a a b a b)", "a b")
	frees(t, "(b a b a)", "b a")
	frees(t, "(set! x x)", "x")
	frees(t, "((set! x 1) x (lambda () x))", "x")
	frees(t, "(handle a (return (x) a) (l (y k) a) (m (y k) a b))", "a b")
}

func TestFreeIsInTheOrderOfMeeting(t *testing.T) {
	frees(t, "(set! x y)", "x y")
	frees(t, "(set! x (set! y (set! z 1)))", "x y z")
	frees(t, "(car (set! x y) z)", "car x y z")
	frees(t, "(z (y (x a)) (b c))", "z y x a b c")
	frees(t, "(if (c (b)) (a x) (y z))", "c b a x y z")
	frees(t, "(let ((x z) (y c)) (b x y a))", "z c b a")
	frees(t, "(letrec ((x z) (y c)) (b x y a))", "z c b a")
	frees(t, "(handle z (l (x k) b) (return (x) c) (m (x k) a))", "z c b a")
	frees(t, "(handle-shallow z (l (x k) (b x)) (m (x k) (a k)) (return (x) (y c)))", "z y c b a")
	frees(t, "(car (handle c (l (x k) b)) a)", "car c b a")
}

func TestFreeAheadOfWhatIsBound(t *testing.T) {
	frees(t, "(let ((x x)) x)", "x")
	frees(t, "(let ((x y) (y x)) x)", "y x")
	frees(t, "(letrec ((x x)) x)", "")
	frees(t, "(letrec ((x y) (y x)) x)", "")
	frees(t, "(handle x (return (x) x))", "x")
	frees(t, "(handle 1 (return (x) k) (l (x k) x))", "k")
	frees(t, "(handle 1 (return (x) x) (l (k y) x))", "x")
	frees(t, "(handle 1 (l (x k) 1) (m (y z) x k))", "x k")
	frees(t, "(handle (x k) (l (x k) x k))", "x k")
	frees(t, "(let ((x (set! x 1))) (set! x 2))", "x")
	frees(t, "(letrec ((x (set! x 1))) (set! x 2))", "")
	frees(t, "(lambda (x) (set! x 1) (set! y x))", "y")
}

func TestFreeBehindWhatIsBound(t *testing.T) {
	for _, text := range []string{"(lambda (x) x)", "(lambda x x)", "(let ((x 1)) x)", "(letrec ((x 1)) x)", "(handle 1 (return (x) x))", "(handle 1 (l (x k) x))", "(handle-shallow 1 (l (k x) x))", "(let ((x 1)) (lambda (x) x) x)"} {
		frees(t, "(if "+text+" 1 2)", "")
		frees(t, "(if "+text+" x 2)", "x")
		frees(t, "(if x "+text+" 2)", "x")
		frees(t, "(let ((y "+text+") (z x)) y)", "x")
		frees(t, "(lambda (x) "+text+" x)", "")
		frees(t, "(lambda (x) (lambda (x) "+text+" x) x)", "")
		frees(t, "((lambda (x) (lambda (x) "+text+" x) x) x)", "x")
		frees(t, "(handle "+text+" (return (z) x))", "x")
		frees(t, "(handle "+text+" (l (a b) x))", "x")
	}
}

// A CDefine binds its name for the program: it isn't among the terms that bind names in them.
func TestFreeOfDefinitions(t *testing.T) {
	frees(t, "(define a a)", "a")
	frees(t, "(define (a x) (a x y))", "a y")
	frees(t, "(define a (set! a 1))", "a")
}

func TestFreeOfNamesOfItsOwn(t *testing.T) {
	part := last(t, "(or 1 2)").Parts[1]
	if got := free.Free(part); !slices.Equal(got, []string{" t"}) {
		t.Errorf("%q", got)
	}
	l := free.Unique(made(t, "(lambda (x) (lambda (y) (or x y car)))"))
	if got := free.Free(l[0].Parts[0]); !slices.Equal(got, []string{"x 1", "car"}) {
		t.Errorf("%q", got)
	}
	if got := free.Free(l[0].Parts[0].Parts[0].Parts[1]); !slices.Equal(got, []string{" t 3", "y 2", "car"}) {
		t.Errorf("%q", got)
	}
}

// Many names, of which each is met twice.
func TestFreeOfManyNames(t *testing.T) {
	var c api.Core
	var want []string
	for n := range 20000 {
		want = append(want, strings.Repeat("x", 1+n%100)+strings.Repeat("y", n/100))
		c = api.Core{Kind: api.CCall, Parts: append(c.Parts, api.Core{Kind: api.CVar, Name: want[n]})}
	}
	c.Parts = append(c.Parts, c.Parts...)
	if got := free.Free(c); !slices.Equal(got, want) {
		t.Errorf("%d names, not %d", len(got), len(want))
	}
}
