package core_test

import (
	"strings"
	"testing"

	"distaff/api"
)

// P8.2: forms of clauses.

func TestCond(t *testing.T) {
	is(t, "(cond)", "#void")
	is(t, "(cond (else a))", "a")
	is(t, "(cond (else a b c))", "(seq a b c)")
	is(t, "(cond (a))", "(let ({t}) a (if {t} {t} #void))")
	is(t, "(cond (a => b))", "(let ({t}) a (if {t} [b {t}] #void))")
	is(t, "(cond (a b))", "(if a b #void)")
	is(t, "(cond (a b c d))", "(if a (seq b c d) #void)")
	is(t, "(cond (a b) (c d) (else e))", "(if a b (if c d e))")
	is(t, "(cond (a) (b => car) (c d e) ((f)) (else 1 2))", "(let ({t}) a (if {t} {t} (let ({t}) b (if {t} [car {t}] (if c (seq d e) (let ({t}) [f] (if {t} {t} (seq '1 '2))))))))")
	is(t, "(cond ((cond) (cond (a))))", "(if #void (let ({t}) a (if {t} {t} #void)) #void)")
	is(t, "(cond (a => (lambda (x) x)) (else 1))", "(let ({t}) a (if {t} [(lambda (x) x) {t}] '1))")
	is(t, "(cond (a b) (\"else\" c))", "(if a b (if '\"else\" c #void))")
	is(t, "(cond ('else b) (c))", "(if 'else b (let ({t}) c (if {t} {t} #void)))")
}

func TestCondsThatCannotBe(t *testing.T) {
	areNone(t, api.ErrSyntax, "(cond . a)", "(cond (a b) . c)", "(cond a)", "(cond 1)", "(cond ())", "(cond #(a b))", "(cond \"a\")", "(cond (a . b))", "(cond (a b . c))", "(cond (a b) ())", "(cond (a b) c (else d))", "(cond else)", "(cond (=> a b))", "(cond (else . a))")
	areNone(t, api.ErrSyntax, "(cond (else))", "(cond (a b) (else))", "(cond (else a) (b c))", "(cond (else a) (else b))", "(cond (else a) b)", "(cond (else a) ())", "(cond (a b) (else c) (d) (else e))", "(cond (else) (a b))", "(cond (else => a))", "(cond (else =>))")
	areNone(t, api.ErrSyntax, "(cond (a =>))", "(cond (a => b c))", "(cond (a => b => c))", "(cond (a b =>))", "(cond (a b => c))", "(cond (=>))", "(cond (a => =>))", "(cond (a else))", "(cond (a => else))", "(cond (a (=> b)))", "(cond ((else a)))")
}

// A clause is looked at when it is come to.
func TestCondInOrder(t *testing.T) {
	inOrder(t, "(cond (P1))")
	inOrder(t, "(cond (P1 => P2) (P3 P4 P5) (P6) (else P7 P8))")
	inOrder(t, "(cond (P1) (P2) (P3 P4))")
	inOrder(t, "(cond (P1 (cond (P2 P3))) (P4 => P5))")
	for _, end := range []string{"()", "1", "a", "(1 . 2)", "(else)", "(else 1) (2)", "(else 1 . 2)", "(else (lambda (if) 1)) 1"} {
		for _, clause := range []string{"(@)", "(@ 1)", "(1 @)", "(1 => @)", "(@ => 1)", "(1 2 @)", "(2 @ 1)", "(@ =>)", "(@ => 1 2)"} {
			fails(t, "(cond (1 2) "+strings.Replace(clause, "@", "(lambda (if) 1)", 1)+" "+end+")", api.ErrBind, 0)
			fails(t, "(cond "+strings.Replace(clause, "@", "(define x 1)", 1)+" "+end+")", api.ErrDefine, 0)
		}
		fails(t, "(cond (1 2) "+end+" ((lambda (if) 1)))", api.ErrSyntax, 0)
		fails(t, "(cond "+end+" ((define x 1)) (else 2))", api.ErrSyntax, 0)
	}
	fails(t, "(cond (else (define x 1)) (1 2))", api.ErrSyntax, 0) // its shape is ahead of its parts
	fails(t, "(cond (1 =>) ((define x 1)))", api.ErrSyntax, 0)
	fails(t, "(cond ((lambda (if) 1) (define x 1)) (else (define y 1)))", api.ErrBind, 0)
}

func TestCase(t *testing.T) {
	is(t, "(case a)", "(let ({t}) a #void)")
	is(t, "(case a (else b))", "(let ({t}) a b)")
	is(t, "(case a (else b c d))", "(let ({t}) a (seq b c d))")
	is(t, "(case a ((1) b))", "(let ({t}) a (if [memv {t} '(1)] b #void))")
	is(t, "(case (a) ((1 x \"y\") b c) (() d) (((if) #(1) (z . 2)) 1) (else e f))", "(let ({t}) [a] (if [memv {t} '(1 x \"y\")] (seq b c) (if [memv {t} '()] d (if [memv {t} '((if) #(1) (z . 2))] '1 (seq e f)))))")
	is(t, "(case a ((else) b) ((=>) c))", "(let ({t}) a (if [memv {t} '(else)] b (if [memv {t} '(=>)] c #void)))")
	is(t, "(case (case a (else 1)) ((1) (case b)))", "(let ({t}) (let ({t}) a '1) (if [memv {t} '(1)] (let ({t}) b #void) #void))")
	is(t, "(case a ((quote b) c))", "(let ({t}) a (if [memv {t} '(quote b)] c #void))")
}

func TestCasesThatCannotBe(t *testing.T) {
	areNone(t, api.ErrSyntax, "(case)", "(case . a)", "(case a . b)", "(case a (else b) . c)", "(case a b)", "(case a 1)", "(case a ())", "(case a \"b\")", "(case a #((1) b))", "(case a ((1)))", "(case a (()))", "(case a (1 b))", "(case a (b c))", "(case a (\"1\" b))", "(case a (#(1) b))", "(case a ((1 . 2) b))", "(case a ((1) . b))", "(case a ((1) b . c))", "(case a ((1) b) ())", "(case a ((1) b) c (else d))", "(case a (=> b))")
	areNone(t, api.ErrSyntax, "(case a (else))", "(case a ((1) b) (else))", "(case a (else b) ((1) c))", "(case a (else b) (else c))", "(case a (else b) c)", "(case a (else . b))", "(case a (else b . c))", "(case a else)", "(case a ((1) => b))", "(case a (else => b))", "(case a ((1) else))", "(case ())")
}

func TestCaseInOrder(t *testing.T) {
	inOrder(t, "(case P1)")
	inOrder(t, "(case P1 (else P2 P3))")
	inOrder(t, "(case P1 ((1) P2 P3) ((a b) P4) (() P5) (else P6))")
	for _, end := range []string{"()", "1", "(1 2)", "((1))", "((1) . 2)", "((1 . 2) 3)", "(else)", "(else 1) ((1) 2)"} {
		fails(t, "(case (lambda (if) 1) "+end+")", api.ErrBind, 0)
		fails(t, "(case (define x 1) ((1) 1) "+end+")", api.ErrDefine, 0)
		fails(t, "(case 1 ((1) (lambda (if) 1)) "+end+")", api.ErrBind, 0)
		fails(t, "(case 1 ((1) 2 (define x 1)) ((2) 2) "+end+")", api.ErrDefine, 0)
		fails(t, "(case 1 ((1) 2) "+end+" ((2) (lambda (if) 1)))", api.ErrSyntax, 0)
	}
	fails(t, "(case 1 (else (define x 1)) ((1) 2))", api.ErrSyntax, 0)
	fails(t, "(case 1 ((1 . 2) (define x 1)))", api.ErrSyntax, 0)
	fails(t, "(case 1 (2 (define x 1)))", api.ErrSyntax, 0)
}

func TestHandle(t *testing.T) {
	for keyword, kind := range map[string]string{"handle": "deep", "handle-shallow": "shallow"} {
		tries := func(text, want string) {
			t.Helper()
			is(t, "("+keyword+" "+text+")", "("+kind+" "+want+")")
		}
		tries("a", "({t}) a {t}")
		tries("(a b)", "({t}) [a b] {t}")
		tries("a (return (x) b)", "(x) a b")
		tries("a (return (x) x b (x))", "(x) a (seq x b [x])")
		tries("a (return (x) (define y x) y)", "(x) a (letrec (y) x y)")
		tries("a (l (x k) b)", "({t}) a {t} (l x k b)")
		tries("a (l (x k) b x k) (m (y j) (resume j y))", "({t}) a {t} (l x k (seq b x k)) (m y j [resume j y])")
		tries("a (l (x k) (define (y) k) y)", "({t}) a {t} (l x k (letrec (y) (lambda () k) y))")
		tries("a (return (x) x) (l (x k) b) (m (x k) c)", "(x) a x (l x k b) (m x k c)")
		tries("a (l (x k) b) (return (x) x) (m (x k) c)", "(x) a x (l x k b) (m x k c)")
		tries("a (m (x k) b) (l (x k) c) (return (y) y)", "(y) a y (m x k b) (l x k c)")
		tries("a (return (return) return) (l (l return) l)", "(return) a return (l l return l)")
		tries("(handle b (return (x) x)) (return (y) (handle-shallow y))", "(y) (deep (x) b x) (shallow ({t}) y {t})")
		tries("a (return (x k) k)", "({t}) a {t} (return x k k)") // a label like any other
		tries("a (return (x) b) (return (x k) k)", "(x) a b (return x k k)")
		tries("a (if (x k) 1) (else (x k) 2) (car (x k) 3) (handle (x k) 4)", "({t}) a {t} (if x k '1) (else x k '2) (car x k '3) (handle x k '4)")
		tries("a (error (x k) 1) (_ (x k) 2) (... (x k) 3)", "({t}) a {t} (error x k '1) (_ x k '2) (... x k '3)")
	}
	var clauses, want strings.Builder
	for i := range 100 {
		label := "l" + strings.Repeat("a", i%10) + strings.Repeat("b", i/10)
		clauses.WriteString("(" + label + " (x k) x)")
		want.WriteString(" (" + label + " x k x)")
	}
	is(t, "(handle a "+clauses.String()+")", "(deep ({t}) a {t}"+want.String()+")")
}

func TestHandlersThatCannotBe(t *testing.T) {
	for _, keyword := range []string{"handle", "handle-shallow"} {
		areNone(t, api.ErrSyntax, "("+keyword+")", "("+keyword+" . a)", "("+keyword+" a . b)", "("+keyword+" a (l (x k) b) . c)")
		for _, clause := range []string{
			"b", "1", "()", "\"l\"", "#(l (x k) b)", "(l)", "(l (x k))", "(l x b)", "(l x k b)", "(l () b)", "(l (x) b)", "(l (x k j) b)", "(l (x . k) b)", "(l (x k . j) b)", "(l (x 1) b)", "(l (1 k) b)", "(l ((x) k) b)", "(l (x \"k\") b)", "(l #(x k) b)", "(1 (x k) b)", "(\"l\" (x k) b)", "((l) (x k) b)", "((x k) b)", "(#(l) (x k) b)", "(l (x k) . b)", "(l (x k) b . c)", "(l . x)", "(l (x k) . 1)",
			"(return)", "(return (x))", "(return x b)", "(return () b)", "(return (x k j) b)", "(return (1) b)", "(return ((x)) b)", "(return (x . k) b)", "(return #(x) b)", "(return (\"x\") b)", "(return (x) . b)", "(return (x) b . c)", "((return) (x) b)", "(\"return\" (x) b)", "(\"return\" (x k) b)",
			"(l (x k) b) (l (x k) b)", "(l (x k) b) (m (x k) b) (l (y j) c)", "(return (x) b) (return (x) b)", "(return (x) b) (l (x k) b) (return (y) c)", "(return (x k) b) (return (x k) b)", "(if (x k) b) (if (x k) c)",
		} {
			areNone(t, api.ErrSyntax, "("+keyword+" a "+clause+")")
			for _, bad := range []string{"(define x 1)", "(lambda (if) 1)"} {
				fails(t, "("+keyword+" "+bad+" (m1 (if if) 1) "+clause+" (m2 (if k) "+bad+"))", api.ErrSyntax, 0) // the SHAPES of all are ahead
			}
		}
	}
}

func TestHandleInOrder(t *testing.T) {
	for _, keyword := range []string{"handle", "handle-shallow"} {
		inOrder(t, "("+keyword+" P1)")
		inOrder(t, "("+keyword+" P1 (return (N2) P3 P4) (l (N5 N6) P7))")
		inOrder(t, "("+keyword+" P1 (l (N2 N3) P4) (return (N5) P6) (m (N7 N8) P9))")
		inOrder(t, "("+keyword+" P1 (l (N2 N3) P4 P5) (m (N6 N7) P8 P9))")
		inOrder(t, "("+keyword+" P1 (l (N2 N3) (define N4 P5) P6) (return (N7) (define (N8) P9) 1))")
		fails(t, "("+keyword+" 1 (l (x x) ()) (m (if k) ()))", api.ErrBind, 0)
		fails(t, "("+keyword+" 1 (l (x k) ()) (m (if k) ()))", api.ErrSyntax, 0)
		fails(t, "("+keyword+" 1 (l (x k) (define y 1)) (m (if k) 1))", api.ErrSyntax, 0)
		fails(t, "("+keyword+" (define y 1) (l (x k) (define y 1)) (m (if k) 1))", api.ErrDefine, 0)
	}
}
