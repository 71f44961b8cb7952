package core

import (
	"slices"

	"distaff/api"
)

// made is what a datum in a quasiquote MAKES.
func (m *making) made(d api.Datum) api.Core {
	switch {
	case !needsWork(d):
		return constant(d)
	case d.Kind == api.DVec:
		return call(variable("list->vector"), m.made(listOf(d)))
	case head(d) == "unquote" && len(d.Items) == 2:
		return m.term(d.Items[1])
	case isMark(d.Items[0]):
		return m.fail(api.ErrSyntax)
	}
	return m.left(d.Kind, d.Items)
}

// left is what is left of a list's Items makes. Where all of them are left, no MARK is ahead.
func (m *making) left(kind int, l []api.Datum) api.Core {
	switch {
	case len(l) == 0:
		return constant(api.Datum{Kind: api.DList})
	case kind == api.DDot && len(l) == 1:
		return m.made(l[0])
	case len(l) == 2 && endsUnquoted(kind, l): // as behind a point
		return m.made(api.Datum{Kind: kind, Items: l})
	case !endsUnquoted(kind, l) && !slices.ContainsFunc(l, needsWork):
		return constant(api.Datum{Kind: kind, Items: l})
	case head(l[0]) == "unquote-splicing" && len(l[0].Items) == 2: // any other one with that ahead fails as what has a MARK ahead
		return call(variable("append"), m.term(l[0].Items[1]), m.left(kind, l[1:]))
	}
	return call(variable("cons"), m.made(l[0]), m.left(kind, l[1:]))
}

// needsWork asks whether a datum NEEDS work.
func needsWork(d api.Datum) bool {
	switch d.Kind {
	case api.DVec:
		return needsWork(listOf(d))
	case api.DList, api.DDot:
		return len(d.Items) > 0 && isMark(d.Items[0]) || endsUnquoted(d.Kind, d.Items) || slices.ContainsFunc(d.Items, needsWork)
	}
	return false
}

// endsUnquoted asks whether unquote or unquote-splicing and one datum more end a list.
func endsUnquoted(kind int, l []api.Datum) bool {
	n := len(l)
	return kind == api.DList && n >= 2 && (isNamed(l[n-2], "unquote") || isNamed(l[n-2], "unquote-splicing"))
}

// isMark asks whether a datum is a MARK.
func isMark(d api.Datum) bool {
	return isNamed(d, "unquote") || isNamed(d, "unquote-splicing") || isNamed(d, "quasiquote")
}

// listOf is the list of a vector's Items.
func listOf(d api.Datum) api.Datum {
	return api.Datum{Kind: api.DList, Items: d.Items}
}
