package core_test

import (
	"slices"
	"strings"
	"testing"

	"distaff/api"
	"distaff/core"
)

// The section Examples, word for word.
func TestExamples(t *testing.T) {
	makes(t, "(let ((x 1)) (or x 2))", "(let (x) '1 (let ({t}) x (if {t} {t} '2)))")
}

// P8.1

func TestFormsInOrder(t *testing.T) {
	comesOut(t, nil)
	comesOut(t, []api.Datum{})
	makes(t, "1", "'1")
	makes(t, "3 car 1 (car 2) \"a\"", "'3", "car", "'1", "[car '2]", "'\"a\"")
	makes(t, "(define a 1) a (define b a) (set! a b)", "(define a '1)", "a", "(define b a)", "(set! a b)")
	makes(t, strings.Repeat("(car 1) 2 ", 300), slices.Repeat([]string{"[car '1]", "'2"}, 300)...)
}

// A program isn't a datum: it may have more NODES than one.
func TestManyForms(t *testing.T) {
	form := list(many(3000-1, sym("car"))...)
	want := "[car" + strings.Repeat(" car", 2998) + "]"
	comesOut(t, many(20, form), slices.Repeat([]string{want}, 20)...)
	comesOut(t, many(20000, sym("car")), slices.Repeat([]string{"car"}, 20000)...)
	hasFault(t, append(many(20000, sym("car")), list()), api.ErrSyntax, 20000)
}

func TestBegin(t *testing.T) {
	makes(t, "(begin 1)", "'1")
	makes(t, "(begin 1 2) 3", "'1", "'2", "'3")
	makes(t, "1 (begin (begin 2 3) 4 (begin (begin (begin 5)) 6)) 7", "'1", "'2", "'3", "'4", "'5", "'6", "'7")
	makes(t, "(begin (define a 1) (begin (define (b) a)) (b))", "(define a '1)", "(define b (lambda () a))", "[b]")
	makes(t, strings.Repeat("(begin 0 ", 59)+"(define x 1)"+strings.Repeat(" 2)", 59), slices.Concat(slices.Repeat([]string{"'0"}, 59), []string{"(define x '1)"}, slices.Repeat([]string{"'2"}, 59))...)
	makes(t, "(if 1 (begin 2 3))", "(if '1 (seq '2 '3) #void)") // that isn't the place of a form
	fails(t, "(if 1 (begin (define x 1) 2))", api.ErrDefine, 0)
	fails(t, "(begin (car (begin (define x 1))))", api.ErrDefine, 0)
	fails(t, "((begin 1 (define x 1)))", api.ErrDefine, 0)
	for _, none := range []string{"(begin)", "(begin . 1)", "(begin 1 . 2)", "begin", "(begin 1 (begin))", "(begin (begin) 1)", "(begin (begin 1 . 2))", "(begin begin)"} {
		fails(t, none, api.ErrSyntax, 0)
		fails(t, "1 (begin 2 3) "+none+" 4", api.ErrSyntax, 2)
		fails(t, "1 (begin 2 "+none+" 3) 4", api.ErrSyntax, 1)
	}
	makes(t, "'begin '(begin) #(begin 1)", "'begin", "'(begin)", "'#(begin 1)")
}

// The place of all that begin holds is the place of begin.
func TestPlaces(t *testing.T) {
	for _, bad := range []struct {
		text string
		e    api.Errno
	}{{"()", api.ErrSyntax}, {"if", api.ErrSyntax}, {"(lambda (if) 1)", api.ErrBind}, {"(if 1 (define x 1))", api.ErrDefine}, {"unbound", api.ErrScope}, {"(set! unbound 1)", api.ErrScope}} {
		fails(t, bad.text, bad.e, 0)
		fails(t, "1 2 "+bad.text+" 3", bad.e, 2)
		fails(t, "1 (begin 2 3 4) (begin 5 6) "+bad.text+" (begin 7 8)", bad.e, 3)
		fails(t, "1 (begin 2 3 (begin 4 5)) (begin 6 (begin 7 "+bad.text+")) (begin 8 9)", bad.e, 2)
		fails(t, "(begin (define a 1) (define b 2)) (define c 3) (lambda (x) (car "+bad.text+"))", bad.e, 2)
	}
}

func TestDefinitions(t *testing.T) {
	makes(t, "(define x 1)", "(define x '1)")
	makes(t, "(define x (car x))", "(define x [car x])")
	makes(t, "(define x 1) (define x 2) (begin (define x 3) (define x 4)) x", "(define x '1)", "(define x '2)", "(define x '3)", "(define x '4)", "x") // no form binds it twice
	makes(t, "(define (f) 1)", "(define f (lambda () '1))")
	makes(t, "(define (f x) x)", "(define f (lambda (x) x))")
	makes(t, "(define (f x y . z) x y z)", "(define f (lambda (x y . z) (seq x y z)))")
	makes(t, "(define (f . z) z)", "(define f (lambda (. z) z))")
	makes(t, "(define (f f) f)", "(define f (lambda (f) f))")
	makes(t, "(define (f x) (define y x) (f y))", "(define f (lambda (x) (letrec (y) x [f y])))")
	makes(t, "(define x (lambda y y))", "(define x (lambda (. y) y))")
	makes(t, "(define x (begin 1 2))", "(define x (seq '1 '2))")
}

func TestDefinitionsThatCannotBe(t *testing.T) {
	for _, text := range []string{
		"(define)", "(define x)", "(define (f))", "(define x 1 2)", "(define 1 2)", "(define \"x\" 2)", "(define #t 2)", "(define #\\x 2)", "(define #(f) 2)", "(define () 2)", "(define (1) 2)", "(define ((f)) 2)", "(define ((f) x) 2)", "(define (1 . x) 2)", "(define (\"f\" x) 2)",
		"(define . x)", "(define x . 1)", "(define x 1 . 2)", "(define (f) . 1)", "(define (f) 1 . 2)",
		"(define (f 1) 1)", "(define (f x (y)) 1)", "(define (f x . 1) 1)", "(define (f . 1) 1)", "(define (f . #(x)) 1)", "(define (f . \"x\") 1)", "(define (f x y 1) 1)", "(define (f 1 . x) 1)",
	} {
		fails(t, text, api.ErrSyntax, 0)
		fails(t, "1 (begin 2 "+text+") 3", api.ErrSyntax, 1)
	}
}

// The SHAPE ahead of the name, the name ahead of the value, and that has the FORMALS with it.
func TestDefinitionsInOrder(t *testing.T) {
	inOrder(t, "(define N1 P2)")
	inOrder(t, "(define (N1 N2 N3) P4)")
	inOrder(t, "(define (N1 N2 . N3) P4 P5)")
	inOrder(t, "(define (N1 . N2) P3 P4 P5)")
	inOrder(t, "(define (N1 N2) (define N3 P5) (define (N4 N6) P7) P8)")
	for _, text := range []string{"(define if)", "(define if (lambda (if) 1) 2)", "(define (if))", "(define ((if) if) (define-syntax))"} {
		fails(t, text, api.ErrSyntax, 0)
	}
	for _, text := range []string{"(define if ())", "(define 'x ())", "(define (if 1) 1)", "(define (if . 1) ())", "(define (if x . 1) ())", "(define (car . #(1)) (define x 1))", "(define (if) (define x 1))", "(define (f if) (define x 1))", "(define (f x x) ())"} {
		fails(t, text, api.ErrBind, 0)
	}
	fails(t, "(define (f 1 if) (lambda (if) 1))", api.ErrSyntax, 0)
	fails(t, "(define (f if . 1) (lambda (if) 1))", api.ErrSyntax, 0)
}

func TestDefinitionsOutermostOnly(t *testing.T) {
	for _, text := range []string{"(define x 1)", "(define (f) 1)", "(define)", "(define 1)", "(define if 1)", "(define x ())", "(define-syntax x 1)", "(define-syntax)", "(define-syntax x (syntax-rules () ((_) 1)))"} {
		for _, form := range []string{"(car @)", "(@)", "(@ 1)", "(if @ 1)", "(if 1 @)", "(if 1 2 @)", "(lambda () 1 @)", "(lambda () (begin @) 1)", "(begin (car @))", "(let ((x @)) 1)", "(let () 1 @)", "(set! x @)", "(define x @)", "(cond (@ 1))", "(cond (1 @))", "(and @)", "(or 1 @)", "(when 1 @)", "(unless @ 1)", "(case @)", "(case 1 ((1) @))", "(case 1 (else @))", "(do () (1 @))", "(do () (1) @ 2)", "(handle @)", "(handle 1 (return (x) 1 @))", "(perform l @)", "(quasiquote (unquote @))"} {
			fails(t, "1 "+strings.Replace(form, "@", text, 1), api.ErrDefine, 1)
		}
	}
	for _, text := range []string{"(define-syntax x 1)", "(define-syntax)", "(define-syntax x (syntax-rules () ((_) 1)))", "(begin 1 (define-syntax x 1))"} {
		fails(t, text, api.ErrDefine, 0)
		fails(t, "1 (begin 2 "+text+")", api.ErrDefine, 1)
	}
	fails(t, "(define-syntax . x)", api.ErrSyntax, 0)
	fails(t, "(define-syntax x . 1)", api.ErrSyntax, 0)
}

// The first error in the order of the forms counts, and all others count ahead of the SCOPES.
func TestTheFirstErrorCounts(t *testing.T) {
	bad := []struct {
		text string
		e    api.Errno
	}{{"()", api.ErrSyntax}, {"(lambda (if) 1)", api.ErrBind}, {"(car (define x 1))", api.ErrDefine}}
	for _, first := range bad {
		for _, second := range bad {
			fails(t, "1 "+first.text+" "+second.text, first.e, 1)
			fails(t, "1 (begin 2 "+first.text+" "+second.text+") 3 "+second.text, first.e, 1)
			fails(t, "(car "+first.text+" "+second.text+")", first.e, 0)
			fails(t, "(car (car 1 "+first.text+") "+second.text+") "+second.text, first.e, 0)
			fails(t, "("+first.text+" "+second.text+")", first.e, 0)
			fails(t, "(define x "+first.text+") "+second.text, first.e, 0)
		}
		fails(t, "unbound (unbound) (set! unbound 1) "+first.text, first.e, 3)
		fails(t, "(car unbound "+first.text+")", first.e, 0)
		fails(t, first.text+" unbound", first.e, 0)
	}
}

func TestNothingComesOutBesideAnError(t *testing.T) {
	for _, text := range []string{"1 2 ()", "(define x 1) (lambda (if) 1)", "(begin 1 2 (car (define x 1)))", "1 2 unbound", "(begin 1 unbound)", "unbound 1"} {
		if l, fault := core.Make(read(t, text)); l != nil || fault.Err == api.OK {
			t.Errorf("%q: %d terms, %v", text, len(l), fault)
		}
	}
	if _, fault := core.Make(read(t, "(begin 1 2) (define x 3)")); fault != (api.Fault{}) {
		t.Error(fault)
	}
}

const keywords = "quote quasiquote unquote unquote-splicing lambda define set! if begin let let* letrec letrec* cond case and or when unless do handle handle-shallow perform define-syntax else =>"

// binders is each place in which a name can be bound, as @.
var binders = []string{
	"(define @ 1)", "(define (@) 1)", "(define (@ . x) 1)", "(define (f @) 1)", "(define (f x @ y) 1)", "(define (f . @) 1)", "(define (f x . @) 1)", "(begin 1 (define @ 1))",
	"(lambda (@) 1)", "(lambda (x @) 1)", "(lambda @ 1)", "(lambda (x . @) 1)", "(lambda (@ . x) 1)", "(lambda () (define @ 1) 2)", "(lambda () (define (@) 1) 2)", "(lambda () (define x 1) (define @ 1) 2)", "(lambda () (define (f @) 1) 2)",
	"(let ((@ 1)) 1)", "(let ((x 1) (@ 1)) 1)", "(let @ () 1)", "(let @ ((x 1)) 1)", "(let f ((@ 1)) 1)", "(let f ((x 1) (@ 1)) 1)", "(let* ((@ 1)) 1)", "(let* ((x 1) (@ 1)) 1)", "(let* ((@ 1) (x 1)) 1)", "(letrec ((@ 1)) 1)", "(letrec ((x 1) (@ 1)) 1)", "(letrec* ((@ 1)) 1)",
	"(do ((@ 1)) (1) 1)", "(do ((@ 1 2)) (1) 1)", "(do ((x 1 2) (@ 1)) (1) 1)", "(handle 1 (return (@) 1))", "(handle-shallow 1 (return (@) 1))", "(handle 1 (l (@ k) 1))", "(handle 1 (l (x @) 1))", "(handle 1 (m (x k) 1) (l (x @) 1))", "(handle-shallow 1 (l (@ k) 1))",
}

func TestNamesThatCannotBeBound(t *testing.T) {
	for _, binder := range binders {
		for _, name := range strings.Fields(keywords + " " + api.Prims) {
			fails(t, "1 "+strings.Replace(binder, "@", name, 1), api.ErrBind, 1)
		}
		for _, name := range []string{"a", "If", "IF", "iff", "i", "f1", "le", "et", "let-", "-let", "let*let", "letrec**", "e", "els", "lse", "=>=", ">=>", "set", "et!", "un", "unquote-", "splicing", "quasi", "handle-", "shallow", "syntax", "ca", "ar", "car1", "lis", "vector->", "->list", "lists", "string", "number", "voi", "oid", "+1+", "**", "p", "t", "l", "return", "error", "_", "...", "memv1"} {
			l, fault := core.Make(read(t, strings.Replace(binder, "@", name, 1)))
			if fault != (api.Fault{}) || len(l) == 0 {
				t.Errorf("%s: %s: %v", binder, name, fault)
			}
		}
	}
}

func TestNamesThatAreBoundTwice(t *testing.T) {
	for _, text := range []string{
		"(lambda (x x) 1)", "(lambda (x y x) 1)", "(lambda (y x x) 1)", "(lambda (x . x) 1)", "(lambda (x y . y) 1)", "(define (f x x) 1)", "(define (f x . x) 1)", "(lambda () (define x 1) (define x 2) 3)", "(lambda () (define x 1) (define (x) 2) 3)", "(lambda () (define (x) 1) (define y 2) (define (x . z) 2) 3)", "(let () (define (f x x) 1) 2)",
		"(let ((x 1) (x 2)) 1)", "(let ((x 1) (y 2) (x 3)) 1)", "(letrec ((x 1) (x 2)) 1)", "(letrec* ((x 1) (x 2)) 1)", "(let f ((x 1) (x 2)) 1)", "(let f ((f 1)) 1)", "(let f ((x 1) (f 2)) 1)", "(do ((x 1) (x 2)) (1) 1)", "(do ((x 1 2) (y 1 2) (x 2 3)) (1) 1)",
		"(handle 1 (l (x x) 1))", "(handle-shallow 1 (m (x k) 1) (l (k k) 1))", "(handle 1 (return (x) 1) (l (x x) 1))",
	} {
		fails(t, "1 2 "+text, api.ErrBind, 2)
	}
	for _, text := range []string{
		"(lambda (x) (define x 1) x)", "(lambda (x) (lambda (x) x))", "(let ((x 1)) (let ((x 2)) x))", "(let ((x 1)) (define x 2) x)", "(let f ((x 1)) (define f 2) (define x 3) x)", "(let* ((x 1) (x 2)) x)", "(let* ((x 1) (y 2) (x x)) x)", "(lambda () (define (f f) f) f)", "(do ((x (lambda (x) x))) (1) 1)",
		"(handle 1 (l (x k) 1) (m (x k) 1))", "(handle 1 (l (x k) 1) (m (k x) 1) (return (x) 1))", "(handle 1 (return (k) 1) (l (k x) 1))", "(handle 1 (x (x k) 1) (k (x k) 1))", "(lambda (x) (handle x (return (x) x) (l (x k) x)))",
	} {
		if l, fault := core.Make(read(t, text)); fault != (api.Fault{}) || len(l) != 1 {
			t.Errorf("%s: %v", text, fault)
		}
	}
}
