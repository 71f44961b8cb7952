package core

import (
	"slices"
	"strings"

	"distaff/api"
)

// term is the TERM of a datum.
func (m *making) term(d api.Datum) api.Core {
	if m.err != api.OK {
		return api.Core{}
	}
	switch d.Kind {
	case api.DSym:
		if isKeyword(d.Text) {
			return m.fail(api.ErrSyntax)
		}
		return variable(d.Text)
	case api.DDot:
		return m.fail(api.ErrSyntax)
	case api.DList:
		return m.list(d)
	}
	return constant(d)
}

// terms is the TERMS of some data, in order.
func (m *making) terms(l []api.Datum) []api.Core {
	var terms []api.Core
	for _, d := range l {
		terms = append(terms, m.term(d))
	}
	return terms
}

// seq is the SEQ of some data.
func (m *making) seq(l []api.Datum) api.Core {
	return sequence(m.terms(l))
}

// list is the TERM of a list.
func (m *making) list(d api.Datum) api.Core {
	keyword := head(d)
	switch {
	case len(d.Items) == 0:
		return m.fail(api.ErrSyntax)
	case !isKeyword(keyword):
		return call(m.terms(d.Items)...)
	case keyword == "define" || keyword == "define-syntax":
		return m.fail(api.ErrDefine)
	case !hasShape(keyword, d.Items[1:]):
		return m.fail(api.ErrSyntax)
	}
	return m.special(keyword, d.Items[1:])
}

// special is the TERM of a KEYWORD's form that has its SHAPE.
func (m *making) special(keyword string, l []api.Datum) api.Core {
	switch keyword {
	case "quote":
		return constant(l[0])
	case "quasiquote":
		return m.made(l[0])
	case "if":
		return m.choose(l)
	case "begin":
		return m.seq(l)
	case "set!":
		return api.Core{Kind: api.CSet, Name: m.bound(l[:1])[0], Parts: m.terms(l[1:])}
	case "lambda":
		return m.lambda(l[0], l[1:])
	case "let", "let*", "letrec", "letrec*", "do":
		return m.binds(keyword, l)
	case "and":
		return m.and(l)
	case "or":
		return m.or(l)
	case "when":
		return choice(m.term(l[0]), m.seq(l[1:]), nothing())
	case "unless":
		return choice(m.term(l[0]), nothing(), m.seq(l[1:]))
	case "cond":
		return m.cond(l)
	case "case":
		return keeping(m.term(l[0]), m.cases(l[1:]))
	case "handle", "handle-shallow":
		return m.handle(keyword == "handle", l[0], l[1:])
	default: // perform
		return m.perform(l)
	}
}

func (m *making) choose(l []api.Datum) api.Core {
	parts := m.terms(l)
	if len(parts) == 2 {
		parts = append(parts, nothing())
	}
	return api.Core{Kind: api.CIf, Parts: parts}
}

func (m *making) and(l []api.Datum) api.Core {
	switch len(l) {
	case 0:
		return truth(1)
	case 1:
		return m.term(l[0])
	}
	return choice(m.term(l[0]), m.and(l[1:]), truth(0))
}

func (m *making) or(l []api.Datum) api.Core {
	switch len(l) {
	case 0:
		return truth(0)
	case 1:
		return m.term(l[0])
	}
	return keptChoice(m.term(l[0]), variable(kept), m.or(l[1:]))
}

// cond is what a cond's clauses come to.
func (m *making) cond(l []api.Datum) api.Core {
	if len(l) == 0 {
		return nothing()
	}
	clause, others := l[0].Items, l[1:]
	switch {
	case l[0].Kind != api.DList || len(clause) == 0:
		return m.fail(api.ErrSyntax)
	case isNamed(clause[0], "else"):
		return m.otherwise(clause, others)
	case len(clause) == 1:
		return keptChoice(m.term(clause[0]), variable(kept), m.cond(others))
	case len(clause) == 3 && isNamed(clause[1], "=>"):
		return keptChoice(m.term(clause[0]), call(m.term(clause[2]), variable(kept)), m.cond(others))
	}
	return choice(m.term(clause[0]), m.seq(clause[1:]), m.cond(others))
}

// otherwise is what a clause with else comes to, that has others behind it.
func (m *making) otherwise(clause, others []api.Datum) api.Core {
	if len(clause) < 2 || len(others) > 0 {
		return m.fail(api.ErrSyntax)
	}
	return m.seq(clause[1:])
}

// cases is what a case's clauses come to.
func (m *making) cases(l []api.Datum) api.Core {
	if len(l) == 0 {
		return nothing()
	}
	clause, others := l[0].Items, l[1:]
	switch {
	case l[0].Kind != api.DList || len(clause) < 2:
		return m.fail(api.ErrSyntax)
	case isNamed(clause[0], "else"):
		return m.otherwise(clause, others)
	case clause[0].Kind != api.DList:
		return m.fail(api.ErrSyntax)
	}
	return choice(call(variable("memv"), variable(kept), constant(clause[0])), m.seq(clause[1:]), m.cases(others))
}

// handle is the CHandle of a body, and of clauses that have their SHAPES.
func (m *making) handle(deep bool, body api.Datum, l []api.Datum) api.Core {
	c := api.Core{Kind: api.CHandle, Deep: deep, Names: []string{kept}, Parts: []api.Core{m.term(body), variable(kept)}}
	for _, d := range l {
		names := m.bound(d.Items[1].Items)
		body := m.body(d.Items[2:])
		if isReturn(d) {
			c.Names, c.Parts[1] = names, body
		} else {
			c.Clauses = append(c.Clauses, api.Clause{Label: strings.Clone(d.Items[0].Text), Arg: names[0], K: names[1], Body: body})
		}
	}
	return c
}

func (m *making) perform(l []api.Datum) api.Core {
	payload := nothing()
	if len(l) == 2 {
		payload = m.term(l[1])
	}
	return api.Core{Kind: api.CPerform, Name: strings.Clone(l[0].Text), Parts: []api.Core{payload}}
}

// bound is the names of SYMBOLS that one form BINDS, or that it changes.
func (m *making) bound(symbols []api.Datum) []string {
	var names []string
	for _, d := range symbols {
		if !canBeBound(d.Text) || slices.Contains(names, d.Text) {
			m.fail(api.ErrBind)
		}
		names = append(names, strings.Clone(d.Text))
	}
	return names
}
