package core_test

import (
	"strings"
	"testing"

	"distaff/api"
)

// P8.4

// stays complains, if a datum NEEDS work.
func stays(t *testing.T, texts ...string) {
	t.Helper()
	for _, text := range texts {
		is(t, "(quasiquote "+text+")", "'"+text)
		is(t, "(quasiquote ("+text+" b))", "'("+text+" b)")
		is(t, "(quasiquote (b "+text+"))", "'(b "+text+")")
		is(t, "(quasiquote (b "+text+" . c))", "'(b "+text+" . c)")
		is(t, "(quasiquote #(b "+text+" c))", "'#(b "+text+" c)")
		is(t, "(quasiquote (,a "+text+"))", "[cons a '("+text+")]")
		is(t, "(quasiquote ("+text+" ,a))", "[cons '"+text+" [cons a '()]]")
	}
}

func TestWhatNeedsNoWork(t *testing.T) {
	stays(t, "a", "1", "2.5", "\"a\"", "#\\a", "#t", "()", "#()", "(a)", "(a b)", "(a . b)", "(a b . c)", "#(a b)", "(())", "(#())", "#(())", "(a (b (c . #(d)) \"e\") . 1)", "(a . #(b (c)))", "(if)", "(lambda (if) 1)", "(define x 1)", "(quote a)", "(quote (a . b))", "unbound", "else")
	stays(t, "(unquote-)", "(a b quote c)", "(\"unquote\" a)", "((unquotes) a)", "#(unquote1 a)")
	stays(t, "(a quasiquote b)", "(a b quasiquote c)", "(a unquote)", "(a unquote b c)", "(a unquote-splicing)", "(a unquote-splicing b c)", "(a unquote b . c)", "(a unquote . b)", "(a b unquote . c)", "(a unquote-splicing . b)", "(a quasiquote . b)", "(a quasiquote b . c)", "(a . #(b unquote))", "#(a quasiquote b)", "#(a unquote)", "#(a unquote b c)", "#(a unquote-splicing)", "#(a quasiquote)")
	for _, mark := range []string{"unquote", "unquote-splicing", "quasiquote"} {
		is(t, "(quasiquote "+mark+")", "'"+mark) // alone it is a SYMBOL like any other
		is(t, "(quasiquote (a "+mark+"))", "'(a "+mark+")")
		is(t, "(quasiquote (a . #(b "+mark+")))", "'(a . #(b "+mark+"))")
		is(t, "(quasiquote (a "+mark+" b c))", "'(a "+mark+" b c)")
		is(t, "(quasiquote (,b "+mark+"))", "[cons b '("+mark+")]")
		is(t, "(quasiquote (,b "+mark+" c d))", "[cons b '("+mark+" c d)]")
		is(t, "(quasiquote (,b "+mark+" . c))", "[cons b '("+mark+" . c)]")
		is(t, "(quasiquote (,b "+mark+" c . d))", "[cons b '("+mark+" c . d)]")
		is(t, "(quasiquote ("+mark+"a ,b . "+mark+"))", "[cons '"+mark+"a [cons b '"+mark+"]]")
	}
	is(t, "`(,b quasiquote c)", "[cons b '(quasiquote c)]")
	is(t, "`(,b a quasiquote c)", "[cons b '(a quasiquote c)]")
}

func TestUnquote(t *testing.T) {
	is(t, "`,a", "a")
	is(t, "`,(a b)", "[a b]")
	is(t, "`,1", "'1")
	is(t, "(quasiquote (unquote (if a b)))", "(if a b #void)")
	is(t, "`(,a)", "[cons a '()]")
	is(t, "`(,a b)", "[cons a '(b)]")
	is(t, "`(b ,a)", "[cons 'b [cons a '()]]")
	is(t, "`(b ,a c d)", "[cons 'b [cons a '(c d)]]")
	is(t, "`(,a ,b ,c)", "[cons a [cons b [cons c '()]]]")
	is(t, "`(1 2 ,a 3 ,b 4 (5))", "[cons '1 [cons '2 [cons a [cons '3 [cons b '(4 (5))]]]]]")
	is(t, "`((,a) (b) ((c ,d)))", "[cons [cons a '()] [cons '(b) [cons [cons [cons 'c [cons d '()]] '()] '()]]]")
	is(t, "`(b (c d) () #(e) ,a)", "[cons 'b [cons '(c d) [cons '() [cons '#(e) [cons a '()]]]]]")
	is(t, "`((b ,a) . c)", "[cons [cons 'b [cons a '()]] 'c]")
	is(t, "`(,'a)", "[cons 'a '()]")
	is(t, "(lambda (x) `(x ,x))", "(lambda (x) [cons 'x [cons x '()]])")
	is(t, "`(if ,a else ,b)", "[cons 'if [cons a [cons 'else [cons b '()]]]]")
}

func TestUnquoteWithATail(t *testing.T) {
	is(t, "`(,a . b)", "[cons a 'b]")
	is(t, "`(,a b . c)", "[cons a '(b . c)]")
	is(t, "`(b ,a . c)", "[cons 'b [cons a 'c]]")
	is(t, "`(b ,a c d . 1)", "[cons 'b [cons a '(c d . 1)]]")
	is(t, "`(b . #(,a))", "[cons 'b [list->vector [cons a '()]]]")
	is(t, "`(b c . #(,a))", "[cons 'b [cons 'c [list->vector [cons a '()]]]]")
	is(t, "`(,a . #(b))", "[cons a '#(b)]")
	is(t, "`(,a b . #(c ,d))", "[cons a [cons 'b [list->vector [cons 'c [cons d '()]]]]]")
	is(t, "`(b unquote c . #(,d))", "[cons 'b [cons 'unquote [cons 'c [list->vector [cons d '()]]]]]")
	is(t, "`(b unquote . #(,d))", "[cons 'b [cons 'unquote [list->vector [cons d '()]]]]")
	is(t, "`(b unquote-splicing . #(,d))", "[cons 'b [cons 'unquote-splicing [list->vector [cons d '()]]]]")
	is(t, "`(,b unquote c . d)", "[cons b '(unquote c . d)]")
	is(t, "`(,b unquote-splicing c . d)", "[cons b '(unquote-splicing c . d)]")
}

// What ends a list may be written behind a point: the reader makes one list of it.
func TestUnquoteAtAListsEnd(t *testing.T) {
	is(t, "`(b . ,a)", "[cons 'b a]")
	is(t, "`(b unquote a)", "[cons 'b a]")
	is(t, "`(b c d . ,(a))", "[cons 'b [cons 'c [cons 'd [a]]]]")
	is(t, "`(,b . ,a)", "[cons b a]")
	is(t, "`(,b c . ,a)", "[cons b [cons 'c a]]")
	is(t, "`((b) (c ,d) . ,a)", "[cons '(b) [cons [cons 'c [cons d '()]] a]]")
	is(t, "`(b (c . ,a))", "[cons 'b [cons [cons 'c a] '()]]")
	is(t, "`((c . ,a) . b)", "[cons [cons 'c a] 'b]")
	is(t, "`(,@b . ,a)", "[append b a]")
	is(t, "`(b ,@c . ,a)", "[cons 'b [append c a]]")
	is(t, "`(b unquote unquote c)", "[cons 'b [cons 'unquote c]]")
	is(t, "`(unquotes unquote a)", "[cons 'unquotes a]")
	is(t, "`(b quasiquote unquote c)", "[cons 'b [cons 'quasiquote c]]")
	is(t, "`(b unquote-splicing unquote c)", "[cons 'b [cons 'unquote-splicing c]]")
	is(t, "`(b unquote (c d))", "[cons 'b [c d]]")
}

func TestUnquoteSplicing(t *testing.T) {
	is(t, "`(,@a)", "[append a '()]")
	is(t, "`(,@a b)", "[append a '(b)]")
	is(t, "`(b ,@a)", "[cons 'b [append a '()]]")
	is(t, "`(b ,@a c)", "[cons 'b [append a '(c)]]")
	is(t, "`(,@a ,@b)", "[append a [append b '()]]")
	is(t, "`(,@a ,b c ,@(d) e)", "[append a [cons b [cons 'c [append [d] '(e)]]]]")
	is(t, "`(,@a . b)", "[append a 'b]")
	is(t, "`(c ,@a . b)", "[cons 'c [append a 'b]]")
	is(t, "`(,@a c . b)", "[append a '(c . b)]")
	is(t, "`(,@a . #(,b))", "[append a [list->vector [cons b '()]]]")
	is(t, "`((,@a) (b ,@c))", "[cons [append a '()] [cons [cons 'b [append c '()]] '()]]")
	is(t, "`(,@'(1 2))", "[append '(1 2) '()]")
	is(t, "`((unquote-splicings a) ,@b)", "[cons '(unquote-splicings a) [append b '()]]")
}

func TestQuasiquotedVectors(t *testing.T) {
	is(t, "`#(,a)", "[list->vector [cons a '()]]")
	is(t, "`#(b ,a c)", "[list->vector [cons 'b [cons a '(c)]]]")
	is(t, "`#(,@a)", "[list->vector [append a '()]]")
	is(t, "`#(b ,@a c)", "[list->vector [cons 'b [append a '(c)]]]")
	is(t, "`#((,a) b)", "[list->vector [cons [cons a '()] '(b)]]")
	is(t, "`#(#(,a))", "[list->vector [cons [list->vector [cons a '()]] '()]]")
	is(t, "`(b #(,a) c)", "[cons 'b [cons [list->vector [cons a '()]] '(c)]]")
	is(t, "`#((b) #(c) ,a)", "[list->vector [cons '(b) [cons '#(c) [cons a '()]]]]")
	is(t, "`#(unquote a)", "[list->vector a]") // the list of its Items is
	is(t, "`#(b unquote a)", "[list->vector [cons 'b a]]")
	is(t, "`#(b c unquote a)", "[list->vector [cons 'b [cons 'c a]]]")
	is(t, "`(#(unquote a) b)", "[cons [list->vector a] '(b)]")
	is(t, "`(b . #(unquote a))", "[cons 'b [list->vector a]]")
	is(t, "`#((b . ,a))", "[list->vector [cons [cons 'b a] '()]]")
}

// quasiErrors is data that NEED work and MAKE nothing.
var quasiErrors = []string{
	"(unquote)", "(unquote a b)", "(unquote a b c)", "(unquote . a)", "(unquote a . b)", "(unquote a b . c)", "(unquote . #(a))",
	"(unquote-splicing)", "(unquote-splicing a b)", "(unquote-splicing . a)", "(unquote-splicing a . b)", "(quasiquote)", "(quasiquote a)", "(quasiquote a b)", "(quasiquote . a)", "(quasiquote a . b)", "(quasiquote (unquote a))", "(quasiquote (unquote (unquote a)))",
	"(b unquote-splicing a)", "(b c unquote-splicing a)", "(b . ,@a)", "(,b . ,@a)", "(,@b . ,@a)", "(unquote unquote a)", "(unquote unquote-splicing a)", "(quasiquote unquote a)", "(unquote-splicing unquote a)",
	"#(unquote)", "#(unquote a b)", "#(unquote-splicing)", "#(unquote-splicing a)", "#(unquote-splicing a b)", "#(quasiquote)", "#(quasiquote a)", "#(quasiquote a b)", "#(b unquote-splicing a)", "#(b c unquote-splicing a)",
	",()", ",if", ",(if)", ",(unquote a)", ",(unquote-splicing a)", ",,a", ",,@a", ",`(unquote a b)", ",(a . b)",
}

func TestQuasiquotesThatCannotBe(t *testing.T) {
	areNone(t, api.ErrSyntax, "(quasiquote)", "(quasiquote a b)", "(quasiquote . a)", "(quasiquote a . b)", "quasiquote", "(quasiquote ,a ,b)", "(quasiquote (unquote (define x 1)) 1)")
	areNone(t, api.ErrSyntax, "`,@a", "`(b . ,@a)", "`#(unquote-splicing a)")
	for _, text := range quasiErrors {
		for _, place := range []string{"HERE", "(HERE)", "(HERE b)", "(b HERE)", "(b HERE c)", "(,b HERE)", "(HERE ,b)", "(HERE . b)", "(b HERE . c)", "#(HERE)", "#(b HERE ,c)", "(b (c HERE) d)", "(HERE . ,b)", "(b . #(HERE))", "(,@b HERE)", "(b #(,c HERE) unquote d)"} {
			isNone(t, "(quasiquote "+strings.Replace(place, "HERE", text, 1)+")", api.ErrSyntax)
		}
	}
	for _, item := range []string{"(unquote-splicing)", "(unquote-splicing a b)", "(unquote-splicing . a)", "(unquote-splicing a . b)", "(unquote-splicing . #(a))", "(unquote-splicing a b c)", ",@()", ",@if", ",@(if)", ",@,a", ",@,@a"} {
		areNone(t, api.ErrSyntax, "`("+item+")", "`("+item+" b)", "`(b "+item+")", "`(b "+item+" . c)", "`#("+item+")", "`(,b "+item+" ,c)", "`("+item+" . ,b)")
	}
}

func TestQuasiquoteInUnquote(t *testing.T) {
	is(t, "`(a ,`(b ,c))", "[cons 'a [cons [cons 'b [cons c '()]] '()]]")
	is(t, "`,`,a", "a")
	is(t, "`,`a", "'a")
	is(t, "`(,@`(,a))", "[append [cons a '()] '()]")
	is(t, "`(a ,(lambda (x) `(,x)))", "[cons 'a [cons (lambda (x) [cons x '()]) '()]]")
	is(t, "'`(a ,b)", "'(quasiquote (a (unquote b)))")
	is(t, "`(a ,'`(b ,c))", "[cons 'a [cons '(quasiquote (b (unquote c))) '()]]")
	isNone(t, "`(a '`b)", api.ErrSyntax)
	isNone(t, "`'`b", api.ErrSyntax)
	is(t, "`'b", "'(quote b)")
	is(t, "`',b", "[cons 'quote [cons b '()]]")
}

func TestQuasiquoteInOrder(t *testing.T) {
	inOrder(t, "`,P1")
	inOrder(t, "`(,P1 b ,P2 (c ,P3))")
	inOrder(t, "`(,P1 #(,P2 ,@P3) . ,P4)")
	inOrder(t, "`(,@P1 (b ,@P2 ,P3) ,@P4 . #(,P5))")
	inOrder(t, "`#(,P1 (,P2 . ,P3) ,@P4)")
	for _, bad := range []string{"(unquote)", "(unquote a b)", "`a", "(b . ,@a)", "(unquote-splicing)", "#(unquote-splicing a)"} {
		fails(t, "`(,(lambda (if) 1) "+bad+")", api.ErrBind, 0)
		fails(t, "`(b (,@(define x 1)) "+bad+")", api.ErrDefine, 0)
		fails(t, "`("+bad+" ,(lambda (if) 1))", api.ErrSyntax, 0)
		fails(t, "`(b "+bad+" . ,(define x 1))", api.ErrSyntax, 0)
	}
	fails(t, "`(,(define x 1) . ,@(lambda (if) 1))", api.ErrDefine, 0)
	fails(t, "`(b . ,@(lambda (if) 1))", api.ErrSyntax, 0)
	fails(t, "`(unquote (define x 1) (lambda (if) 1))", api.ErrSyntax, 0)
	fails(t, "`((unquote-splicing (define x 1) 1))", api.ErrSyntax, 0)
	fails(t, "(quasiquote (unquote (define x 1)) (unquote (lambda (if) 1)))", api.ErrSyntax, 0)
}

func TestLongQuasiquotes(t *testing.T) {
	n := 990
	makes(t, "(define a 1) `("+strings.Repeat(",a ", n)+")", "(define a '1)", strings.Repeat("[cons a ", n)+"'()"+strings.Repeat("]", n))
	makes(t, "(define a 1) `("+strings.Repeat("1 ", n)+",a "+strings.Repeat("2 ", n)+")", "(define a '1)", strings.Repeat("[cons '1 ", n)+"[cons a '("+strings.TrimSpace(strings.Repeat("2 ", n))+")]"+strings.Repeat("]", n))
	deep := 25
	makes(t, "(define a 1) `"+strings.Repeat("(1 ", deep)+",a"+strings.Repeat(")", deep), "(define a '1)", strings.Repeat("[cons '1 [cons ", deep)+"a"+strings.Repeat(" '()]]", deep))
}
