package core

import (
	"slices"

	"distaff/api"
)

// binds is the TERM of a let of any kind, or of a do, that has its SHAPE.
func (m *making) binds(keyword string, l []api.Datum) api.Core {
	switch {
	case keyword == "do":
		return m.do(l[0].Items, l[1].Items, l[2:])
	case keyword == "let*":
		return m.letEach(l[0].Items, l[1:])
	case keyword != "let":
		return m.let(api.CLetrec, l[0].Items, l[1:])
	case isSymbol(l[0]):
		return m.letLoop(l[0], l[1].Items, l[2:])
	}
	return m.let(api.CLet, l[0].Items, l[1:])
}

func (m *making) let(kind int, rows, body []api.Datum) api.Core {
	names := m.bound(column(rows, 0))
	values := m.terms(column(rows, 1))
	return binding(kind, names, values, m.body(body))
}

// letEach is a let*.
func (m *making) letEach(rows, body []api.Datum) api.Core {
	if len(rows) <= 1 {
		return m.let(api.CLet, rows, body)
	}
	names := m.bound(column(rows[:1], 0))
	values := m.terms(column(rows[:1], 1))
	return binding(api.CLet, names, values, m.letEach(rows[1:], body))
}

// letLoop is a let with a name.
func (m *making) letLoop(name api.Datum, rows, body []api.Datum) api.Core {
	names := m.bound(append([]api.Datum{name}, column(rows, 0)...))
	values := m.terms(column(rows, 1))
	lambda := api.Core{Kind: api.CLambda, Names: slices.Clone(names[1:]), Parts: []api.Core{m.body(body)}}
	return call(append([]api.Core{recursive(name.Text, lambda)}, values...)...)
}

// do is a do of these rows, of what ends it, and of what is done each time.
func (m *making) do(rows, ends, each []api.Datum) api.Core {
	names := m.bound(column(rows, 0))
	values := m.terms(column(rows, 1))
	test, result := m.term(ends[0]), nothing()
	if len(ends) > 1 {
		result = m.seq(ends[1:])
	}
	parts := m.terms(each)
	again := []api.Core{variable(loop)}
	for _, row := range rows {
		again = append(again, m.term(step(row)))
	}
	body := choice(test, result, sequence(append(parts, call(again...))))
	lambda := api.Core{Kind: api.CLambda, Names: names, Parts: []api.Core{body}}
	return call(append([]api.Core{recursive(loop, lambda)}, values...)...)
}

// step is what a row of a do asks for each next time: its name, where the step lacks.
func step(row api.Datum) api.Datum {
	if len(row.Items) < 3 {
		return row.Items[0]
	}
	return row.Items[2]
}

// lambda is the CLambda of FORMALS, if these are some, and of a BODY.
func (m *making) lambda(d api.Datum, body []api.Datum) api.Core {
	if !areFormals(d) {
		return m.fail(api.ErrSyntax)
	}
	symbols, rest := formals(d)
	names := m.bound(symbols)
	return api.Core{Kind: api.CLambda, Names: names, Rest: rest, Parts: []api.Core{m.body(body)}}
}

// define is the CDefine of a list with define ahead.
func (m *making) define(d api.Datum) api.Core {
	if !isDefinition(d) {
		return m.fail(api.ErrSyntax)
	}
	names := m.bound([]api.Datum{defined(d)})
	return api.Core{Kind: api.CDefine, Name: names[0], Parts: []api.Core{m.value(d)}}
}

// body is the BODY of one datum or more.
func (m *making) body(l []api.Datum) api.Core {
	n := slices.IndexFunc(l, func(d api.Datum) bool { return head(d) != "define" })
	definitions := l[:max(n, 0)]
	switch {
	case n == 0:
		return m.seq(l)
	case n < 0 || slices.ContainsFunc(definitions, func(d api.Datum) bool { return !isDefinition(d) }):
		return m.fail(api.ErrSyntax)
	}
	var symbols []api.Datum
	for _, d := range definitions {
		symbols = append(symbols, defined(d))
	}
	names := m.bound(symbols)
	var values []api.Core
	for _, d := range definitions {
		values = append(values, m.value(d))
	}
	return binding(api.CLetrec, names, values, m.seq(l[n:]))
}

// defined is the SYMBOL of a DEFINITION.
func defined(d api.Datum) api.Datum {
	if what := d.Items[1]; !isSymbol(what) {
		return what.Items[0]
	}
	return d.Items[1]
}

// value is the value of a DEFINITION.
func (m *making) value(d api.Datum) api.Core {
	what := d.Items[1]
	switch {
	case isSymbol(what):
		return m.term(d.Items[2])
	case what.Kind == api.DDot && len(what.Items) == 2:
		return m.lambda(what.Items[1], d.Items[2:])
	}
	return m.lambda(api.Datum{Kind: what.Kind, Items: what.Items[1:]}, d.Items[2:])
}
