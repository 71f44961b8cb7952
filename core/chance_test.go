package core_test

import (
	"math/rand/v2"
	"slices"
	"strings"
	"testing"

	"distaff/api"
	"distaff/reader"
)

// What Make answers is held against the reference: for all short texts of a few pieces, and for programs made by chance.

// tryAll tries all texts of so many pieces at most in the place of HERE in a program's text.
func tryAll(t *testing.T, most int, program string, pieces ...string) {
	t.Helper()
	n := 0
	var try func(text string, left int)
	try = func(text string, left int) {
		if l, fault := reader.Read([]byte(strings.Replace(program, "HERE", text, 1))); fault == (api.Fault{}) {
			n++
			agree(t, l)
		}
		for _, piece := range pieces {
			if left > 0 && !t.Failed() {
				try(text+piece, left-1)
			}
		}
	}
	if try("", most); n < 2 {
		t.Errorf("%s: %d texts", program, n)
	}
}

func TestAllShortForms(t *testing.T) {
	for _, keyword := range strings.Fields(keywords + " car") {
		tryAll(t, 6, "(define x 0) ("+keyword+" HERE)", "(", ")", " x ", " if ", " . ")
		tryAll(t, 5, "(define x 0) (car ("+keyword+" HERE))", "(", ")", " x ", " y ", " 1 ", " . ")
		tryAll(t, 3, "(define x 0) (begin 1 ("+keyword+" HERE) 2)", "(x)", " x ", " () ", "(() x)", "(define y 1)", "((x y))", "(y (x z) x)", "y")
	}
	tryAll(t, 6, "HERE", "(", ")", " begin ", " define ", " x ")
	tryAll(t, 6, "(define HERE)", "(", ")", " x ", " 1 ", " . ", " car ")
	tryAll(t, 6, "(define (x HERE)", "(", ")", " x ", " 1 ", " . ", " car ")
}

func TestAllShortBindings(t *testing.T) {
	for _, keyword := range []string{"let", "let*", "letrec", "letrec*", "let x", "let z", "do"} {
		tryAll(t, 6, "("+keyword+" (HERE) (x y))", "(", ")", " x ", " y ", " 1 ", " . ")
		tryAll(t, 4, "("+keyword+" ((x 1) HERE) (y))", "(x ", "(y ", "(", ")", " x ", " y ", " 1 ")
		tryAll(t, 4, "("+keyword+" ((x 1) (y 2)) (HERE)", "(", ")", " x ", " y ", " 1 ", " . ", " define ")
	}
	tryAll(t, 6, "(lambda HERE)", "(", ")", " x ", " y ", " 1 ", " . ")
	tryAll(t, 6, "(lambda (x) HERE)", "(define ", "(", ")", " x ", " y ", " . ")
	tryAll(t, 4, "(lambda (x) HERE)", "(define x y)", "(define y x)", "(define (y x) x)", "(define (x . y) y)", " x ", "y", "(define y)")
	tryAll(t, 4, "(do ((x 1 HERE)) (x HERE) x)", "(", ")", " x ", " y ", " . ")
}

func TestAllShortClauses(t *testing.T) {
	tryAll(t, 6, "(cond HERE)", "(", ")", " else ", " => ", " car ", " . ")
	tryAll(t, 4, "(cond HERE)", "(1)", "(1 2)", "(1 => car)", "(else 1)", "(else)", "(1 =>)", "(1 . 2)", "(else => 1)", "(y)", "()")
	tryAll(t, 6, "(case 1 HERE)", "(", ")", " else ", " 1 ", " . ")
	tryAll(t, 4, "(case 1 HERE)", "((1) 2)", "(() 1 2)", "(else 1)", "(else)", "((1))", "((1 . 2) 3)", "((1) . 2)", "((1) y)", "1")
	for _, keyword := range []string{"handle", "handle-shallow"} {
		tryAll(t, 6, "("+keyword+" 1 (HERE)", "(", ")", " return ", " x ", " y ", " . ")
		tryAll(t, 6, "("+keyword+" 1 (l (x y) x) (HERE)", "(", ")", " l ", " x ", " return ")
		tryAll(t, 3, "("+keyword+" HERE)", "1", "(return (x) x)", "(return (x y) x)", "(return (y) x)", "(l (x k) k)", "(m (x x) k)", "(l (k x) (define y x) y)", "(m (x k) (define y x))", "(m (x) x)", "(if (if) ())", "(m (x k) ())", "x")
	}
}

func TestAllShortQuasiquotes(t *testing.T) {
	tryAll(t, 6, "(quasiquote HERE)", "(", ")", " unquote ", " unquote-splicing ", " . ", " car ")
	tryAll(t, 6, "(quasiquote (HERE))", "(", ")", " unquote ", " unquote-splicing ", " quasiquote ", " 1 ")
	tryAll(t, 6, "(quasiquote (HERE))", "(", ")", " unquote ", " 1 ", " . ", "#(")
	tryAll(t, 5, "(quasiquote (HERE))", "(", ")", ",", ",@", "`", " car ", " . ", "#(")
	tryAll(t, 6, "(quasiquote (,car HERE))", ",car", ",@car", " 1 ", " . ", " unquote ", " unquote-splicing ")
	tryAll(t, 6, "(quasiquote #(HERE))", "(", ")", " unquote ", " unquote-splicing ", " . ", " 1 ")
}

// chance makes programs.
type chance struct {
	*rand.Rand
	t     *testing.T
	names []string // that are bound
}

// rarely is so once in n times.
func (c *chance) rarely(n int) bool { return c.IntN(n) == 0 }

// among is one of some texts.
func (c *chance) among(texts ...string) string { return texts[c.IntN(len(texts))] }

// some is up to so many texts, with blanks between.
func (c *chance) some(least, most int, text func() string) string {
	var l []string
	for range least + c.IntN(most-least+1) {
		l = append(l, text())
	}
	return strings.Join(l, " ")
}

// fresh is a name to be bound.
func (c *chance) fresh() string {
	if c.rarely(500) {
		return c.among("if", "car", "else", "memv", "1", "()", "\"x\"")
	}
	name := c.among("x", "y", "z", "v", "w", "t", "l", "k", "n", "m", "list*") + c.among("", "", "1", "2", "3", "!")
	c.names = append(c.names, name)
	return name
}

// scoped is a text in which names are bound that aren't behind it.
func (c *chance) scoped(text func() string) string {
	n := len(c.names)
	s := text()
	c.names = c.names[:n]
	return s
}

// name is one that is bound, mostly.
func (c *chance) name() string {
	switch {
	case c.rarely(1000):
		return c.among("x", "unbound", "if", "=>")
	case len(c.names) > 0 && !c.rarely(4):
		return c.among(c.names...)
	}
	return c.among("car", "+", "list", "g")
}

// own is a name that may change, mostly.
func (c *chance) own() string {
	if len(c.names) == 0 {
		return "g"
	}
	return c.names[c.IntN(len(c.names))]
}

// datum is any one.
func (c *chance) datum(depth int) string {
	if depth > 0 && c.rarely(2) {
		inner := c.some(1, 3, func() string { return c.datum(depth - 1) })
		return c.among("("+inner+")", "("+inner+" . a)", "#("+inner+")", "()")
	}
	return c.among("1", "2.5", "a", "\"s\"", "#t", "#\\c", "if", "x")
}

// wrong is a form's text, that rarely lacks its last part, or has one too many.
func (c *chance) wrong(text string) string {
	if !c.rarely(500) {
		return text
	}
	l, fault := reader.Read([]byte(text))
	if fault != (api.Fault{}) || len(l[0].Items) == 0 {
		return text
	}
	items := slices.Clone(l[0].Items)
	at := c.IntN(len(items))
	switch c.IntN(4) {
	case 0:
		items = slices.Delete(items, at, at+1)
	case 1:
		items = slices.Insert(items, at, items[c.IntN(len(items))])
	case 2:
		items[at] = one(c.t, c.among("x", "if", "else", "=>", "define", "(define x 1)", "(define-syntax)", "(lambda (if) 1)", "()"))
	case 3:
		items[at], items[0] = items[0], items[at]
	}
	return printed([]api.Datum{list(items...)})
}

// body is a BODY.
func (c *chance) body(depth int) string {
	return c.scoped(func() string {
		text := ""
		if c.rarely(4) {
			text = c.some(1, 2, func() string { return c.wrong(c.definition(depth)) }) + " "
		}
		return text + c.some(1, 2, func() string { return c.term(depth) })
	})
}

// definition is a DEFINITION.
func (c *chance) definition(depth int) string {
	name := c.fresh()
	if c.rarely(2) {
		return "(define " + name + " " + c.term(depth) + ")"
	}
	return c.scoped(func() string { return "(define (" + name + " " + c.formals() + ") " + c.body(depth) + ")" })
}

// formals is some names, and maybe a tail.
func (c *chance) formals() string {
	text := c.some(0, 2, c.fresh)
	if text != "" && c.rarely(3) {
		text += " . " + c.fresh()
	}
	return text
}

// term is a datum that has a TERM, mostly.
func (c *chance) term(depth int) string {
	if depth == 0 || c.rarely(5) {
		return c.among("1", "\"a\"", "#f", "#(1 a)", c.name(), c.name(), c.name(), "'"+c.datum(2))
	}
	d := depth - 1
	part := func() string { return c.term(d) }
	return c.wrong(c.scoped(func() string {
		switch c.IntN(12) {
		case 0:
			return "(if " + c.some(2, 3, part) + ")"
		case 1:
			return "(" + c.among("begin", "and", "or", "when", "unless") + " " + c.some(2, 4, part) + ")"
		case 3:
			return "(lambda (" + c.formals() + ") " + c.body(d) + ")"
		case 4, 5:
			return c.let(d)
		case 6:
			return c.do(d)
		case 7:
			return "(cond " + c.some(0, 3, func() string {
				return c.wrong(c.among("("+part()+")", "("+part()+" => "+part()+")", "("+part()+" "+c.some(1, 2, part)+")"))
			}) + c.among("", " (else "+part()+")") + ")"
		case 8:
			return "(case " + part() + " " + c.some(0, 3, func() string { return c.wrong("(" + c.among("()", "(1 a)", "(#(b))") + " " + c.some(1, 2, part) + ")") }) + c.among("", " (else "+part()+")") + ")"
		case 9:
			return c.handle(d)
		case 10:
			return "`" + c.quasi(3, d)
		}
		return "(" + c.some(1, 4, part) + ")"
	}))
}

// rows is names with values.
func (c *chance) rows(depth int, step func() string) string {
	return "(" + c.some(0, 3, func() string {
		name := c.fresh()
		return c.wrong("(" + name + " " + c.term(depth) + step() + ")")
	}) + ")"
}

func (c *chance) let(depth int) string {
	keyword := c.among("let", "let*", "letrec", "letrec*")
	if c.rarely(4) {
		keyword = c.among("let", "let", "let", "let", "let", keyword) + " " + c.fresh()
	}
	return "(" + keyword + " " + c.rows(depth, func() string { return "" }) + " " + c.body(depth) + ")"
}

func (c *chance) do(depth int) string {
	rows := c.rows(depth, func() string { return c.among("", " "+c.term(depth)) })
	part := func() string { return c.term(depth) }
	return "(do " + rows + " (" + c.some(1, 3, part) + ") " + c.some(0, 2, part) + ")"
}

func (c *chance) handle(depth int) string {
	clause := func() string {
		return c.scoped(func() string {
			if c.rarely(3) {
				return c.wrong("(return (" + c.fresh() + ") " + c.body(depth) + ")")
			}
			return c.wrong("(" + c.among("l", "m", "n", "o", "return", "if", "error") + " (" + c.fresh() + " " + c.fresh() + ") " + c.body(depth) + ")")
		})
	}
	return "(" + c.among("handle", "handle-shallow") + " " + c.term(depth) + " " + c.some(0, 2, clause) + ")"
}

// quasi is what may stand in a quasiquote.
func (c *chance) quasi(depth, inner int) string {
	switch {
	case depth > 0 && !c.rarely(3):
		items := c.some(1, 4, func() string { return c.quasi(depth-1, inner) })
		return c.among("("+items+")", "("+items+")", "#("+items+")", "("+items+" . "+c.among("a", "#("+items+")", ","+c.term(inner))+")")
	case c.rarely(2):
		return "," + c.term(inner)
	case c.rarely(3) && depth < 3:
		return ",@" + c.term(inner)
	case c.rarely(100):
		return c.among("unquote", "unquote-splicing", "quasiquote", "`a", ",", "(unquote)", ",@,@")
	}
	return c.datum(1)
}

// program is the text of a few forms.
func (c *chance) program() string {
	c.names = nil
	return "(define g 1) " + c.some(1, 3, func() string {
		switch c.IntN(4) {
		case 0:
			return c.wrong(c.definition(3))
		case 1:
			return "(begin " + c.some(1, 2, func() string { return c.term(2) }) + " " + c.wrong(c.definition(2)) + ")"
		}
		return c.term(4)
	})
}

func TestProgramsByChance(t *testing.T) {
	c := chance{Rand: rand.New(rand.NewPCG(8, 1)), t: t}
	met := map[api.Errno]int{}
	for range 12000 {
		if l, fault := reader.Read([]byte(c.program())); fault == (api.Fault{}) {
			met[agree(t, l)]++
		}
		if t.Failed() {
			return
		}
	}
	for _, e := range []api.Errno{api.OK, api.ErrSyntax, api.ErrScope, api.ErrBind, api.ErrDefine} {
		if met[e] < 20 {
			t.Errorf("%d: %d programs alone", e, met[e])
		}
	}
}
