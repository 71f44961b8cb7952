package core

import (
	"slices"

	"distaff/api"
)

// hasShape asks whether a KEYWORD's form with these Items behind the KEYWORD has a SHAPE that it can have.
func hasShape(keyword string, l []api.Datum) bool {
	n := len(l)
	switch keyword {
	case "and", "or", "cond":
		return true
	case "begin", "case":
		return n >= 1
	case "when", "unless":
		return n >= 2
	case "quote", "quasiquote":
		return n == 1
	case "if":
		return n == 2 || n == 3
	case "set!":
		return n == 2 && isSymbol(l[0])
	case "perform":
		return (n == 1 || n == 2) && isSymbol(l[0])
	case "lambda":
		return n >= 2 && areFormals(l[0])
	case "let":
		return n >= 2 && areRows(l[0], 2, 2) || n >= 3 && isSymbol(l[0]) && areRows(l[1], 2, 2)
	case "let*", "letrec", "letrec*":
		return n >= 2 && areRows(l[0], 2, 2)
	case "do":
		return n >= 2 && areRows(l[0], 2, 3) && l[1].Kind == api.DList && len(l[1].Items) >= 1
	case "handle", "handle-shallow":
		return n >= 1 && areClauses(l[1:])
	}
	return false
}

// areRows asks whether a datum is a list of lists, each of so many Items, the first one a SYMBOL.
func areRows(d api.Datum, least, most int) bool {
	return d.Kind == api.DList && !slices.ContainsFunc(d.Items, func(row api.Datum) bool {
		return head(row) == "" || len(row.Items) < least || len(row.Items) > most
	})
}

// areFormals asks whether a datum is FORMALS.
func areFormals(d api.Datum) bool {
	symbols, _ := formals(d)
	return areSymbols(symbols)
}

// formals is what stands in the place of FORMALS' SYMBOLS, and whether the last one is for the rest.
func formals(d api.Datum) ([]api.Datum, bool) {
	switch d.Kind {
	case api.DList:
		return d.Items, false
	case api.DDot:
		return d.Items, true
	}
	return []api.Datum{d}, true
}

// areClauses asks whether some data are clauses of one handler.
func areClauses(l []api.Datum) bool {
	var labels []string
	for _, d := range l {
		if !isClause(d) {
			return false
		}
		label := d.Items[0].Text
		if isReturn(d) {
			label = "" // no label's name
		}
		if slices.Contains(labels, label) {
			return false
		}
		labels = append(labels, label)
	}
	return true
}

// isClause asks whether a datum is a clause of a handler.
func isClause(d api.Datum) bool {
	if head(d) == "" || len(d.Items) < 3 || d.Items[1].Kind != api.DList || !areSymbols(d.Items[1].Items) {
		return false
	}
	return isReturn(d) || len(d.Items[1].Items) == 2
}

// isReturn asks whether a clause is for what the body comes to. One with two names is for a label of that name.
func isReturn(d api.Datum) bool {
	return head(d) == "return" && len(d.Items[1].Items) == 1
}

// isDefinition asks whether a list with define ahead is a DEFINITION.
func isDefinition(d api.Datum) bool {
	if len(d.Items) < 3 {
		return false
	}
	switch what := d.Items[1]; what.Kind {
	case api.DSym:
		return len(d.Items) == 3
	case api.DList, api.DDot:
		return len(what.Items) > 0 && isSymbol(what.Items[0])
	}
	return false
}
