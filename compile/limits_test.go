package compile_test

import (
	"fmt"
	"slices"
	"strings"
	"testing"

	"distaff/api"
	"distaff/datum"
)

// P12.1: the limits of layers 10 and 11 that a program of terms can come to, each of them from both sides.

// bounded is the program of the greatest terms for which there is one, of some that are made of a number; it complains, if there is one of greater terms.
func bounded(t *testing.T, n int, terms func(n int) []api.Core) api.Code {
	t.Helper()
	refused(t, terms(n+1))
	refused(t, terms(2*n+2))
	compiled(t, terms(n-1))
	return compiled(t, terms(n))
}

// each is the terms of texts that are made of the numbers below n.
func each(t *testing.T, n int, text func(i int) string) []api.Core {
	t.Helper()
	var texts []string
	for i := range n {
		texts = append(texts, text(i))
	}
	return made(t, texts...)
}

// joined is texts that are made of the numbers below n, with blanks between.
func joined(n int, text func(i int) string) string {
	var l []string
	for i := range n {
		l = append(l, text(i))
	}
	return strings.Join(l, " ")
}

// many is so many names.
func many(n int) string {
	return joined(n, func(i int) string { return fmt.Sprintf("a%d", i) })
}

func TestMostProcs(t *testing.T) {
	c := bounded(t, api.MaxList-1, func(n int) []api.Core { // main is one, too
		return each(t, n, func(int) string { return "(lambda () 1)" })
	})
	if len(c.Procs) != 4000 {
		t.Error(len(c.Procs))
	}
	c = bounded(t, 1333, func(n int) []api.Core {
		return each(t, n, func(int) string { return "(handle-shallow 1 (a (x k) 1))" })
	})
	if len(c.Procs) != 4000 {
		t.Error(len(c.Procs))
	}
}

func TestMostProcsWithinOneAnother(t *testing.T) {
	c := bounded(t, api.MaxList-2, func(n int) []api.Core {
		c := api.Core{Kind: api.CVar, Name: "a"}
		for range n {
			c = api.Core{Kind: api.CLambda, Parts: []api.Core{c}}
		}
		return []api.Core{{Kind: api.CLambda, Names: []string{"a"}, Parts: []api.Core{c}}}
	})
	want := slices.Repeat([]string{"free 0; closure NEXT; return"}, 4000)
	want[0], want[1], want[3999] = "closure NEXT; return", "local 0; closure NEXT; return", "free 0; return"
	for n, p := range c.Procs {
		if got := body(p); got != strings.Replace(want[n], "NEXT", fmt.Sprint(n+1), 1) {
			t.Errorf("%d: %s", n, got)
		}
	}
}

func TestMostConsts(t *testing.T) {
	number := func(i int) string { return fmt.Sprint(i) }
	c := bounded(t, api.MaxList, func(n int) []api.Core { return each(t, n, number) })
	if len(c.Consts) != 4000 {
		t.Error(len(c.Consts))
	}
	bounded(t, api.MaxList, func(n int) []api.Core {
		return each(t, n, func(i int) string { return fmt.Sprintf("(perform a%d)", i) })
	})
	compiled(t, slices.Concat(each(t, 4000, number), each(t, 4000, number)))
}

func TestMostGlobals(t *testing.T) {
	define := func(i int) string { return fmt.Sprintf("(define a%d 1)", i) }
	c := bounded(t, api.MaxList, func(n int) []api.Core { return each(t, n, define) })
	if len(c.Globals) != 4000 {
		t.Error(len(c.Globals))
	}
	compiled(t, slices.Concat(each(t, 4000, define), each(t, 4000, define)))
}

// ones is so many constants one behind the other, one of which is more than one instruction.
func ones(n, more int) []api.Core {
	one := api.Core{Kind: api.CConst, Datum: datum.Num(1)}
	l := slices.Repeat([]api.Core{one}, n)
	for range more {
		l[0] = api.Core{Kind: api.CPerform, Name: "a", Parts: []api.Core{l[0]}}
	}
	return l
}

func TestMostInstrs(t *testing.T) {
	instrs := func(l []api.Core) int {
		n := 0
		for _, p := range compiled(t, l).Procs {
			n += len(p.Code)
		}
		return n
	}
	// Behind each of them there is one more.
	if n := instrs(ones(20000, 0)); n != 40000 {
		t.Error(n)
	}
	if n := instrs(ones(19999, 2)); n != 40000 {
		t.Error(n)
	}
	refused(t, ones(20000, 1))
	refused(t, ones(19999, 3))
	refused(t, ones(20001, 0))
	refused(t, ones(100000, 0))
	// All procedures count.
	two := func(a, b []api.Core) []api.Core {
		return []api.Core{{Kind: api.CLambda, Parts: []api.Core{{Kind: api.CSeq, Parts: a}}}, {Kind: api.CLambda, Parts: []api.Core{{Kind: api.CSeq, Parts: b}}}}
	}
	if n := instrs(two(ones(10000, 0), ones(9998, 0))); n != 40000 {
		t.Error(n)
	}
	refused(t, two(ones(10000, 0), ones(9998, 1)))
	refused(t, two(ones(10000, 1), ones(9998, 0)))
}

// Of names that go through procedures within one another there are far more than there are terms.
func TestMostInstrsOfNamesThatGoThrough(t *testing.T) {
	c := bounded(t, 442, func(n int) []api.Core {
		names := strings.Fields(many(88))
		var uses []api.Core
		for _, name := range names {
			uses = append(uses, api.Core{Kind: api.CVar, Name: name})
		}
		c := api.Core{Kind: api.CSeq, Parts: uses}
		for range n {
			c = api.Core{Kind: api.CLambda, Parts: []api.Core{c}}
		}
		return []api.Core{{Kind: api.CLambda, Names: names, Parts: []api.Core{c}}}
	})
	if len(c.Procs) != 444 {
		t.Error(len(c.Procs))
	}
}

// longDatum is a vector that prints in so many bytes, some 20000.
func longDatum(n int) api.Datum {
	d := api.Datum{Kind: api.DVec}
	for range 49 {
		d.Items = append(d.Items, api.Datum{Kind: api.DStr, Text: strings.Repeat("a", 400)})
	}
	return api.Datum{Kind: api.DVec, Items: append(d.Items, api.Datum{Kind: api.DStr, Text: strings.Repeat("b", n-19752)})}
}

func TestLongestConst(t *testing.T) {
	for _, n := range []int{19999, 20000, 20001, 20002} {
		if text, e := datum.Print(longDatum(n)); len(text) != n || e != api.OK {
			t.Fatal(len(text), e)
		}
		for _, l := range [][]api.Core{{{Kind: api.CConst, Datum: longDatum(n)}}, append(ones(3, 1), api.Core{Kind: api.CLambda, Parts: []api.Core{{Kind: api.CConst, Datum: longDatum(n)}}})} {
			if n > api.MaxText {
				refused(t, l)
			} else {
				compiled(t, l)
			}
		}
	}
}

// Slots and Depth together.
func TestGreatestFrame(t *testing.T) {
	bindings := func(n int) string { return joined(n, func(i int) string { return fmt.Sprintf("(a%d 1)", i) }) }
	values := func(n int) string { return joined(n, func(i int) string { return "1" }) }
	for _, x := range []struct {
		form string
		of   func(n int) string
		most int
	}{
		{"(lambda (~) 1)", many, 179},
		{"(lambda (~ . r) 1)", many, 178},
		{"(lambda (~) (car 1))", many, 178},
		{"(lambda (~) (set! a0 1))", many, 178},
		{"(lambda (~) (perform a a1))", many, 179},
		{"(lambda (~) (car (let ((b 1)) b)))", many, 176},
		{"(lambda (~) (let ((b 1)) (let ((c 2)) 3)) (let ((d 4)) 5))", many, 176},
		{"(lambda (~) (if 1 (car 2) 3))", many, 178},
		{"(handle (let (~) 1))", bindings, 90},
		{"(handle 1 (return (r) (car ~)))", values, 178},
		{"(handle 1 (a (r k) (car ~)))", values, 177},
		{"(car ~)", values, 179},
		{"(let (~) 1)", bindings, 90},
		{"(car (let (~) 1))", bindings, 89},
		{"(letrec (~) 1)", bindings, 178},
		{"(car (letrec (~) 1))", bindings, 177},
		{"(let* (~) 1)", bindings, 179},
		{"(car (let* (~) 1))", bindings, 177},
	} {
		bounded(t, x.most, func(n int) []api.Core {
			return made(t, strings.Replace(x.form, "~", x.of(n), 1))
		})
	}
	heads(t, "(lambda ("+many(179)+") 1)", "main 0 0 1 0", "lambda 179 179 1 0")
	heads(t, "(lambda ("+many(178)+" . r) 1)", "main 0 0 1 0", "lambda 178+ 179 1 0")
	heads(t, "(car "+values(179)+")", "main 0 0 180 0")
}

// Each of the procedures within one another binds one name, and the innermost one uses all.
func TestMostFreeValues(t *testing.T) {
	c := bounded(t, 180, func(n int) []api.Core {
		c := api.Core{Kind: api.CSeq}
		names := strings.Fields(many(n))
		for _, name := range names {
			c.Parts = append(c.Parts, api.Core{Kind: api.CVar, Name: name})
		}
		for _, name := range names {
			c = api.Core{Kind: api.CLambda, Names: []string{name}, Parts: []api.Core{c}}
		}
		return []api.Core{c}
	})
	if last := c.Procs[len(c.Procs)-1]; head(last) != "lambda 1 1 1 179" {
		t.Error(head(last))
	}
}

func TestMostClauses(t *testing.T) {
	for _, text := range []string{"(handle 1 *)", "(car (handle-shallow 1 (return (x) x) *))", "(lambda () (handle 1 *))"} {
		bounded(t, api.MaxClauses, func(n int) []api.Core {
			clauses := joined(n, func(i int) string { return fmt.Sprintf("(a%d (x k) 1)", i) })
			return made(t, strings.Replace(text, "*", clauses, 1))
		})
	}
}
