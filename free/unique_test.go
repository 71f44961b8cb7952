package free_test

import (
	"regexp"
	"strconv"
	"strings"
	"testing"

	"distaff/api"
	"distaff/free"
)

// P9.1

func TestUniqueOfTermsThatBind(t *testing.T) {
	unique(t, "(lambda (x) x)", "(lambda (x.1) x.1)")
	unique(t, "(lambda (x y) (y x))", "(lambda (x.1 y.2) [y.2 x.1])")
	unique(t, "(lambda x x)", "(lambda (. x.1) x.1)")
	unique(t, "(lambda (x . y) (y x))", "(lambda (x.1 . y.2) [y.2 x.1])")
	unique(t, "(lambda () 1)", "(lambda () '1)")
	unique(t, "(let ((x 1)) x)", "(let (x.1) '1 x.1)")
	unique(t, "(let ((x 1) (y 2)) (y x))", "(let (x.1 y.2) '1 '2 [y.2 x.1])")
	unique(t, "(let () 1)", "(let () '1)")
	unique(t, "(letrec ((x 1)) x)", "(letrec (x.1) '1 x.1)")
	unique(t, "(letrec ((x y) (y x)) (y x))", "(letrec (x.1 y.2) y.2 x.1 [y.2 x.1])")
	unique(t, "(letrec () 1)", "(letrec () '1)")
	unique(t, "(handle 1 (return (x) (car x)))", "(deep (x.1) '1 [car x.1])")
	unique(t, "(handle-shallow 1 (return (x) (car x)))", "(shallow (x.1) '1 [car x.1])")
	unique(t, "(handle 1)", "(deep ({t}.1) '1 {t}.1)")
	unique(t, "(handle 1 (l (x k) (k x)))", "(deep ({t}.1) '1 {t}.1 (l x.2 k.3 [k.3 x.2]))")
	unique(t, "(handle-shallow 1 (l (x k) (k x)) (m (k x) (k x)))", "(shallow ({t}.1) '1 {t}.1 (l x.2 k.3 [k.3 x.2]) (m k.4 x.5 [k.4 x.5]))")
}

func TestUniqueOfNamesOfItsOwn(t *testing.T) {
	unique(t, "(or 1 2)", "(let ({t}.1) '1 (if {t}.1 {t}.1 '2))")
	unique(t, "(or 1 2 3)", "(let ({t}.1) '1 (if {t}.1 {t}.1 (let ({t}.2) '2 (if {t}.2 {t}.2 '3))))")
	unique(t, "(or (or 1 2) 3)", "(let ({t}.1) (let ({t}.2) '1 (if {t}.2 {t}.2 '2)) (if {t}.1 {t}.1 '3))")
	unique(t, "(cond (1 => car))", "(let ({t}.1) '1 (if {t}.1 [car {t}.1] #void))")
	unique(t, "(case 1 ((2) 3))", "(let ({t}.1) '1 (if [memv {t}.1 '(2)] '3 #void))")
	unique(t, "(do ((x 1 (car x))) (x 2) 3)", "[(letrec ({l}.1) (lambda (x.2) (if x.2 '2 (seq '3 [{l}.1 [car x.2]]))) {l}.1) '1]")
	unique(t, "(let f ((x 1)) (f x))", "[(letrec (f.1) (lambda (x.2) [f.1 x.2]) f.1) '1]")
	unique(t, "(let* ((x 1) (x x)) x)", "(let (x.1) '1 (let (x.2) x.1 x.2))")
	unique(t, "(define (f x) (define y x) (set! y x) y)", "(define f (lambda (x.1) (letrec (y.2) x.1 (seq (set! y.2 x.1) y.2))))")
}

// binding is terms that bind a, with a and car used in them, and what they become behind n names: a.n is the first name that is bound there.
var binding = []struct{ text, want string }{
	{"(lambda (a) (car a))", "(lambda (a.1) [car a.1])"},
	{"(lambda (b . a) (a b))", "(lambda (b.1 . a.2) [a.2 b.1])"},
	{"(let ((a 1) (b 2)) (set! b a))", "(let (a.1 b.2) '1 '2 (set! b.2 a.1))"},
	{"(letrec ((a b) (b a)) (set! a 1))", "(letrec (a.1 b.2) b.2 a.1 (set! a.1 '1))"},
	{"(handle 2 (return (a) (car a)))", "(deep (a.1) '2 [car a.1])"},
	{"(handle-shallow 2 (l (a b) (b a)))", "(shallow ({t}.1) '2 {t}.1 (l a.2 b.3 [b.3 a.2]))"},
	{"(handle 2 (l (a b) b) (m (b a) b) (return (b) b))", "(deep (b.1) '2 b.1 (l a.2 b.3 b.3) (m b.4 a.5 b.4))"},
}

// around is terms in which another one stands in the place of *, and what they become; behind the * stands the number of the first name that is bound in there; x.+1 is the first name behind those, and so on.
var around = []struct{ text, want string }{
	{"(define f *)", "(define f *1)"},
	{"(set! z *)", "(set! z *1)"},
	{"(if * 1 2)", "(if *1 '1 '2)"},
	{"(if 1 * 2)", "(if '1 *1 '2)"},
	{"(if 1 2 *)", "(if '1 '2 *1)"},
	{"(lambda (a) *)", "(lambda (a.1) *2)"},
	{"(lambda (a . b) * (car a))", "(lambda (a.1 . b.2) (seq *3 [car a.1]))"},
	{"(lambda () 1 * 2)", "(lambda () (seq '1 *1 '2))"},
	{"(lambda () 1 2 *)", "(lambda () (seq '1 '2 *1))"},
	{"(* (lambda (a) a))", "[*1 (lambda (a.+1) a.+1)]"},
	{"(car 1 * (lambda (a) a))", "[car '1 *1 (lambda (a.+1) a.+1)]"},
	{"(let ((a *) (b a)) a)", "(let (a.1 b.2) *3 a a.1)"},
	{"(let ((a a) (b *)) b)", "(let (a.1 b.2) a *3 b.2)"},
	{"(let ((b a) (a 1)) *)", "(let (b.1 a.2) a '1 *3)"},
	{"(letrec ((a *) (b a)) a)", "(letrec (a.1 b.2) *3 a.1 a.1)"},
	{"(letrec ((a b) (b *)) a)", "(letrec (a.1 b.2) b.2 *3 a.1)"},
	{"(letrec ((b a) (a 1)) *)", "(letrec (b.1 a.2) a.2 '1 *3)"},
	{"(handle * (return (a) a) (l (b a) a))", "(deep (a.1) *2 a.1 (l b.+1 a.+2 a.+2))"},
	{"(handle-shallow a (return (a) *) (l (b a) a))", "(shallow (a.1) a *2 (l b.+1 a.+2 a.+2))"},
	{"(handle a (l (b a) *))", "(deep ({t}.1) a {t}.1 (l b.2 a.3 *4))"},
	{"(handle a (l (b a) 1) (m (a b) (car *)))", "(deep ({t}.1) a {t}.1 (l b.2 a.3 '1) (m a.4 b.5 [car *6]))"},
	{"(handle a (l (a b) *) (m (b a) a))", "(deep ({t}.1) a {t}.1 (l a.2 b.3 *4) (m b.+1 a.+2 a.+2))"},
	{"(perform a *)", "(perform a *1)"},
}

var (
	numberOf = regexp.MustCompile(`\.\d`)
	behind   = regexp.MustCompile(`\.\+\d`)
)

// shifted is a text with other numbers, which begin behind some others.
func shifted(text string, numbers *regexp.Regexp, others int) string {
	return numbers.ReplaceAllStringFunc(text, func(s string) string {
		return "." + strconv.Itoa(others+int(s[len(s)-1]-'0'))
	})
}

// filled is what a term became that has another one in the place of *.
func filled(outer, inner string) string {
	place := strings.Index(outer, "*")
	ahead := int(outer[place+1]-'0') - 1
	bound := 0
	for _, s := range numberOf.FindAllString(inner, -1) {
		bound = max(bound, int(s[1]-'0'))
	}
	return shifted(outer[:place]+shifted(inner, numberOf, ahead)+outer[place+2:], behind, ahead+bound)
}

func TestUniqueOfTermsWithinTerms(t *testing.T) {
	for _, outer := range around {
		for _, inner := range binding {
			text := strings.Replace(outer.text, "*", inner.text, 1)
			want := filled(outer.want, inner.want)
			unique(t, "(define a 0) (define z 0) "+text, "(define a '0)", "(define z '0)", want)
		}
	}
}

func TestUniqueNumbersAcrossTerms(t *testing.T) {
	unique(t, "(lambda (x) x) (define f (lambda (x) x)) (let ((y 1) (x 2)) x) x (define x 1)", "(lambda (x.1) x.1)", "(define f (lambda (x.2) x.2))", "(let (y.3 x.4) '1 '2 x.4)", "x", "(define x '1)")
	unique(t, "(handle (lambda (x) x) (return (y) (lambda (z) y)) (l (x k) (lambda (x) k)) (m (y x) (let ((x y)) x))) (lambda (x) x)",
		"(deep (y.1) (lambda (x.2) x.2) (lambda (z.3) y.1) (l x.4 k.5 (lambda (x.6) k.5)) (m y.7 x.8 (let (x.9) y.7 x.9)))", "(lambda (x.10) x.10)")
	unique(t, "(let ((x (lambda (x) x)) (y (lambda (x y) x))) (lambda (x) y))", "(let (x.1 y.2) (lambda (x.3) x.3) (lambda (x.4 y.5) x.4) (lambda (x.6) y.2))")
	unique(t, "(letrec ((x (lambda (z) x)) (y (lambda (x) y))) (lambda (z) (x y)))", "(letrec (x.1 y.2) (lambda (z.3) x.1) (lambda (x.4) y.2) (lambda (z.5) [x.1 y.2]))")
	unique(t, "(lambda (x) (lambda (y) x) (lambda (z) x)) (lambda (w) w)", "(lambda (x.1) (seq (lambda (y.2) x.1) (lambda (z.3) x.1)))", "(lambda (w.4) w.4)")
	unique(t, "")
}

func TestUniqueTakesTheInnerName(t *testing.T) {
	unique(t, "(lambda (x) x (lambda (x) x (set! x 1)) x (set! x 2))", "(lambda (x.1) (seq x.1 (lambda (x.2) (seq x.2 (set! x.2 '1))) x.1 (set! x.1 '2)))")
	unique(t, "(let ((x 1)) (let ((x x)) (let ((x x) (y x)) x)))", "(let (x.1) '1 (let (x.2) x.1 (let (x.3 y.4) x.2 x.2 x.3)))")
	unique(t, "(let ((x 1)) (letrec ((x x) (y x)) x) x)", "(let (x.1) '1 (seq (letrec (x.2 y.3) x.2 x.2 x.2) x.1))")
	unique(t, "(let ((x 1)) (handle x (return (x) x) (l (k x) x) (m (x k) x) (n (y k) x)) x)", "(let (x.1) '1 (seq (deep (x.2) x.1 x.2 (l k.3 x.4 x.4) (m x.5 k.6 x.5) (n y.7 k.8 x.1)) x.1))")
	unique(t, "(let ((k 1)) (handle k (l (x k) k) (m (k y) k)) k)", "(let (k.1) '1 (seq (deep ({t}.2) k.1 {t}.2 (l x.3 k.4 k.4) (m k.5 y.6 k.5)) k.1))")
	unique(t, "(lambda (x) (set! x (lambda (x) (set! x x))))", "(lambda (x.1) (set! x.1 (lambda (x.2) (set! x.2 x.2))))")
}

func TestUniqueWhereNamesAreNotBound(t *testing.T) {
	unique(t, "(define x 1) (let ((x x) (y (set! x 2))) x) x", "(define x '1)", "(let (x.1 y.2) x (set! x '2) x.1)", "x")
	unique(t, "(define x 1) (lambda () (let ((x x)) x) x)", "(define x '1)", "(lambda () (seq (let (x.1) x x.1) x))")
	unique(t, "(define x 1) (lambda () (letrec ((x x)) x) x)", "(define x '1)", "(lambda () (seq (letrec (x.1) x.1 x.1) x))")
	unique(t, "(define x 1) (handle x (return (x) x) (l (y k) x))", "(define x '1)", "(deep (x.1) x x.1 (l y.2 k.3 x))")
	unique(t, "(define x 1) (define k 2) (handle (x k) (l (x k) (x k)) (m (y z) (x k)))", "(define x '1)", "(define k '2)", "(deep ({t}.1) [x k] {t}.1 (l x.2 k.3 [x.2 k.3]) (m y.4 z.5 [x k]))")
	unique(t, "(define x 1) ((lambda (x) x) x) (lambda () x)", "(define x '1)", "[(lambda (x.1) x.1) x]", "(lambda () x)")
}

func TestUniqueLeavesWhatIsNotBoundThere(t *testing.T) {
	unique(t, "(define x (lambda (y) (x y))) (define x 2) (set! x (car x))", "(define x (lambda (y.1) [x y.1]))", "(define x '2)", "(set! x [car x])")
	unique(t, "(lambda (x) (perform x x))", "(lambda (x.1) (perform x x.1))")
	unique(t, "(lambda (l) (handle l (l (x k) l)))", "(lambda (l.1) (deep ({t}.2) l.1 {t}.2 (l x.3 k.4 l.1)))")
	unique(t, "(handle 1 (x (x k) x) (k (y k) k))", "(deep ({t}.1) '1 {t}.1 (x x.2 k.3 x.2) (k y.4 k.5 k.5))")
	unique(t, "(lambda (x) 'x \"x\" #\\x '(x . #(x)) 4294967296 -0.5 #f)", "(lambda (x.1) (seq 'x '\"x\" '#\\x '(x . #(x)) '4294967296 '-0.5 '#f))")
	unique(t, "car (+ 1 2) (lambda (x) (cons x car))", "car", "[+ '1 '2]", "(lambda (x.1) [cons x.1 car])")
	unique(t, "1 (if 1 2) (begin 'a 2) (perform l)", "'1", "(if '1 '2 #void)", "'a", "'2", "(perform l #void)")
}

// Names that are bound within one another a thousand times have numbers of several digits.
func TestUniqueOfManyNames(t *testing.T) {
	c, want := api.Core{Kind: api.CVar, Name: "a"}, "a.1001"
	for n := 1100; n > 0; n-- {
		text := "b"
		if n == 1 || n == 1001 {
			text = "a"
		}
		c = api.Core{Kind: api.CLambda, Names: []string{text}, Parts: []api.Core{c}}
		want = "(lambda (" + text + "." + strconv.Itoa(n) + ") " + want + ")"
	}
	if got := told(free.Unique([]api.Core{c})[0]); got != want {
		t.Errorf("%s", short(got))
	}
}

// The numbers of a call don't go on in the next one.
func TestUniqueBeginsAnew(t *testing.T) {
	for range 3 {
		unique(t, "(lambda (x) x) (lambda (x) x)", "(lambda (x.1) x.1)", "(lambda (x.2) x.2)")
	}
}
