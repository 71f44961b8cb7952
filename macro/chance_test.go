package macro_test

import (
	"math/rand/v2"
	"strconv"
	"strings"
	"testing"

	"distaff/api"
	"distaff/reader"
)

// What Expand answers is held against the reference: for all short RULES, and for programs made by chance.

// data is the data of a text, if it can be read.
func data(text string) ([]api.Datum, bool) {
	l, fault := reader.Read([]byte(text))
	return l, fault == (api.Fault{})
}

// tryAll tries all texts of so many pieces at most in the place of @ in a RULE's text, with some FORMS behind it.
func tryAll(t *testing.T, most int, pieces []string, rule, forms string) {
	var try func(text string, left int)
	try = func(text string, left int) {
		if l, ok := data("(define-syntax m (syntax-rules (l) " + strings.Replace(rule, "@", text, 1) + "))" + forms); ok {
			agree(t, l)
		}
		if left > 0 && !t.Failed() {
			for _, piece := range pieces {
				try(text+piece, left-1)
			}
		}
	}
	try("", most)
}

func TestAllShortPatterns(t *testing.T) {
	pieces := []string{"(", ")", " ... ", " a ", " . "}
	tryAll(t, 6, pieces, "((_ (@)) 'b)", "")
	for _, forms := range []string{"(m)", "(m 1)", "(m 1 2)", "(m (1) (2))", "(m () (1 2))", "(m . 1)", "(m ((1 2) ()) ((3)))"} {
		tryAll(t, 5, pieces, "((_ @ . b) 'b)", forms)
		tryAll(t, 5, []string{"(", ")", " ... ", " a ", " l ", " _ "}, "((_ @) 'x)", forms)
	}
	for _, forms := range []string{"(m l)", "(m 1 l 2)", "(m (l) (l))", "(m (1 l) (l 2))", "(m (1 . l))"} {
		tryAll(t, 5, []string{"(", ")", " ... ", " l ", " . ", " _ "}, "((_ @) 'x)", forms)
	}
}

func TestAllShortTemplates(t *testing.T) {
	pieces := []string{"(", ")", " ... ", " a ", " . "}
	tryAll(t, 6, pieces, "((_ . a) @) ((other) 1)", "(m (m) (m 1) (m 1 2)) (m m) (m . 1) (m)")
	tryAll(t, 7, pieces, "((_ a ...) '(@))", "(m) (m 1) (m 1 2)")
	tryAll(t, 6, pieces, "((_ (a ...) ...) '(@))", "(m) (m (1)) (m () (1 2))")
	tryAll(t, 6, []string{"(", ")", " ... ", " a ", " b ", " c "}, "((_ (a ...) b ((c ...) ...)) '(@))", "(m (1 2) 3 ((4) (5 6)))")
	tryAll(t, 6, []string{"(", ")", " ... ", " a ", " c "}, "((_ (a ...) ((c ...) ...)) (x (@)))", "(m (1 2) ((4) (5 6))) (m () ()) (m (1) (()))")
}

// chance makes programs.
type chance struct {
	*rand.Rand
	variables []string // of the PATTERN that was made last; its RANK is a digit behind a variable's letters
}

// rarely is so once in n times.
func (c *chance) rarely(n int) bool { return c.IntN(n) == 0 }

// among is one of some texts.
func (c *chance) among(texts ...string) string { return texts[c.IntN(len(texts))] }

// variable is a new one.
func (c *chance) variable(rank int) string {
	name := "v" + string(rune('a'+len(c.variables))) + strconv.Itoa(rank)
	c.variables = append(c.variables, name)
	return name
}

// pattern is the Items of a list of a pattern.
func (c *chance) pattern(depth, rank int) string {
	var items []string
	n := c.IntN(4)
	many := c.IntN(2*n + 1)
	for i := range n {
		around := rank
		if i == many {
			around++
		}
		items = append(items, c.patternItem(depth, around))
		if i == many || c.rarely(100) {
			items = append(items, "...")
		}
	}
	if n > 0 && (many >= n && c.rarely(3) || c.rarely(100)) {
		items = append(items, ".", c.patternItem(0, rank))
	}
	return strings.Join(items, " ")
}

// patternItem is an Item of a pattern.
func (c *chance) patternItem(depth, rank int) string {
	switch {
	case depth > 0 && c.rarely(2):
		return "(" + c.pattern(depth-1, rank) + ")"
	case c.rarely(5):
		return c.among("_", "lit", "7", "\"t\"", "#(1)")
	case c.rarely(100) && len(c.variables) > 0:
		return c.among(c.variables...)
	}
	return c.variable(rank)
}

// fitting is data that fit a pattern mostly.
func (c *chance) fitting(p api.Datum) string {
	if c.rarely(60) {
		return c.among("lit", "()", "(1 . 2)", "#()")
	}
	switch {
	case p.Kind == api.DSym && p.Text != "lit":
		return c.among("1", "2", "x", "lit", "()", "(y z)", "#(w)", "(p . q)", "(m)", "(n 1)", "quote", "'(m)")
	case p.Kind != api.DList && p.Kind != api.DDot:
		return told([]api.Datum{p})
	}
	return "(" + c.fittingItems(p.Kind, p.Items) + ")"
}

// fittingItems is what fits the Items, and the tail, of a list of that kind.
func (c *chance) fittingItems(kind int, items []api.Datum) string {
	tail := ""
	if kind == api.DDot {
		last := len(items) - 1
		tail = c.among("", "4", "4 5", "4 5 . 6")
		if last > 0 && c.rarely(2) {
			tail = ". " + c.fitting(items[last])
		}
		items = items[:last]
	}
	var texts []string
	for i, item := range items {
		n := 1
		switch {
		case named(item) == "...":
			n = 0
		case i+1 < len(items) && named(items[i+1]) == "...":
			n = c.IntN(4)
		}
		for range n {
			texts = append(texts, c.fitting(item))
		}
	}
	return strings.Join(texts, " ") + " " + tail
}

// template is a TEMPLATE that so many Items with an ELLIPSIS stand around.
func (c *chance) template(depth, around int) string {
	if depth == 0 || c.rarely(4) {
		return c.templateSingle(around)
	}
	var items []string
	for range c.IntN(4) {
		item := c.template(depth-1, around)
		if c.rarely(2) {
			item = c.template(depth-1, around+1)
			if strings.ContainsAny(item, "123456789"[around:]) || c.rarely(60) {
				item += " ..."
			}
		}
		items = append(items, item)
	}
	if len(items) > 0 && c.rarely(5) {
		items = append(items, ".", c.templateSingle(around))
	}
	return "(" + strings.Join(items, " ") + ")"
}

// templateSingle is a TEMPLATE that is no list.
func (c *chance) templateSingle(around int) string {
	for range 9 {
		if len(c.variables) > 0 {
			name := c.among(c.variables...)
			if int(name[2]-'0') <= around || c.rarely(60) {
				return name
			}
		}
	}
	return c.among("x", "0", "()", "#(va0)", "lit", "quote", "_", "m", "n", "\"\"")
}

// program is the text of a few DEFINITIONS and uses.
func (c *chance) program() string {
	var definitions, uses strings.Builder
	for _, name := range []string{"m", "n"}[:1+c.IntN(2)] {
		definitions.WriteString("(define-syntax " + name + " (syntax-rules (lit)")
		for range 1 + c.IntN(3) {
			c.variables = nil
			pattern := "_ " + c.pattern(2, 0)
			definitions.WriteString(" ((" + pattern + ") " + c.template(3, 0) + ")")
			if l, ok := data("(" + pattern + ")"); ok {
				for range c.IntN(4) {
					use := "(" + name + " " + c.fittingItems(l[0].Kind, l[0].Items[1:]) + ")"
					uses.WriteString(" " + c.among(use, use, "(x "+use+" . y)", "("+use+" '"+use+")"))
				}
			}
		}
		definitions.WriteString("))\n")
	}
	return definitions.String() + uses.String()
}

func TestProgramsByChance(t *testing.T) {
	c := chance{Rand: rand.New(rand.NewPCG(7, 1))}
	met := map[api.Errno]int{}
	for range 30000 {
		if l, ok := data(c.program()); ok {
			met[agree(t, l)]++
		}
		if t.Failed() {
			return
		}
	}
	for _, e := range []api.Errno{api.OK, api.ErrMacro, api.ErrMatch, api.ErrSteps} {
		if met[e] < 100 {
			t.Errorf("%d: %d programs alone", e, met[e])
		}
	}
}
