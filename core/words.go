package core

import (
	"slices"
	"strings"

	"distaff/api"
)

const (
	// keywords is the KEYWORDS, with a blank at each side.
	keywords = " quote quasiquote unquote unquote-splicing lambda define set! if begin let let* letrec letrec* cond case and or when unless do handle handle-shallow perform define-syntax else => "
	// primitives is the PRIMITIVES, with a blank at each side.
	primitives = " " + api.Prims + " "

	kept = " t" // T: what was come to, where no name of the program is for it
	loop = " l" // L
)

// isKeyword asks whether a name is a KEYWORD.
func isKeyword(name string) bool {
	return strings.Contains(keywords, " "+name+" ")
}

// isPrimitive asks whether a name is a PRIMITIVE.
func isPrimitive(name string) bool {
	return strings.Contains(primitives, " "+name+" ")
}

// canBeBound asks whether a name may be bound, and changed.
func canBeBound(name string) bool {
	return !isKeyword(name) && !isPrimitive(name)
}

// isSymbol asks whether a datum is a SYMBOL.
func isSymbol(d api.Datum) bool {
	return d.Kind == api.DSym
}

// isNamed asks whether a datum is the SYMBOL of a name.
func isNamed(d api.Datum, name string) bool {
	return isSymbol(d) && d.Text == name
}

// areSymbols asks whether all of some data are SYMBOLS.
func areSymbols(l []api.Datum) bool {
	return !slices.ContainsFunc(l, func(d api.Datum) bool { return !isSymbol(d) })
}

// head is the name of the SYMBOL that stands ahead in a list without a tail; no text, if none does.
func head(d api.Datum) string {
	if d.Kind != api.DList || len(d.Items) == 0 || !isSymbol(d.Items[0]) {
		return ""
	}
	return d.Items[0].Text
}

// column is the Items in one place of some lists.
func column(rows []api.Datum, place int) []api.Datum {
	var l []api.Datum
	for _, row := range rows {
		l = append(l, row.Items[place])
	}
	return l
}
