package core_test

import (
	"fmt"
	"math"
	"regexp"
	"slices"
	"strings"
	"testing"

	"distaff/api"
	"distaff/core"
	"distaff/datum"
	"distaff/reader"
)

// read is the data of a text.
func read(t *testing.T, text string) []api.Datum {
	t.Helper()
	l, fault := reader.Read([]byte(text))
	if fault != (api.Fault{}) {
		t.Fatalf("%q: %v", short(text), fault)
	}
	return l
}

// one is the datum of a text that has one.
func one(t *testing.T, text string) api.Datum {
	t.Helper()
	l := read(t, text)
	if len(l) != 1 {
		t.Fatalf("%q: %d data", short(text), len(l))
	}
	return l[0]
}

// short is a text that isn't too long to be told.
func short(s string) string {
	if len(s) > 400 {
		return s[:200] + " .. " + s[len(s)-200:]
	}
	return s
}

// printed is data as they can be told.
func printed(l []api.Datum) string {
	var texts []string
	for _, d := range l {
		text, e := datum.Print(d)
		if e != api.OK {
			text = fmt.Sprint(d)
		}
		texts = append(texts, text)
	}
	return strings.Join(texts, " ")
}

// Terms are told as texts, in which all is to be seen that they have: 'd is a constant, {t} is T, [f a] a call, #void CVoid; all others have a word ahead.

// told is a term's text.
func told(c api.Core) string {
	if !hasNothingElse(c) {
		return fmt.Sprintf("%+v", c)
	}
	parts := tellAll(c.Parts)
	switch c.Kind {
	case api.CConst:
		return "'" + printed([]api.Datum{c.Datum})
	case api.CVar:
		return name(c.Name)
	case api.CSet:
		return "(set! " + name(c.Name) + parts + ")"
	case api.CIf:
		return "(if" + parts + ")"
	case api.CLambda:
		return "(lambda " + formals(c.Names, c.Rest) + parts + ")"
	case api.CSeq:
		return "(seq" + parts + ")"
	case api.CCall:
		return "[" + strings.TrimPrefix(parts, " ") + "]"
	case api.CLet:
		return "(let " + formals(c.Names, false) + parts + ")"
	case api.CLetrec:
		return "(letrec " + formals(c.Names, false) + parts + ")"
	case api.CHandle:
		return "(" + map[bool]string{false: "shallow ", true: "deep "}[c.Deep] + formals(c.Names, false) + parts + tellClauses(c.Clauses) + ")"
	case api.CPerform:
		return "(perform " + c.Name + parts + ")"
	case api.CDefine:
		return "(define " + name(c.Name) + parts + ")"
	}
	return "#void"
}

// hasNothingElse asks whether a term has what its kind has, and all else is zero and empty.
func hasNothingElse(c api.Core) bool {
	parts := len(c.Parts)
	switch c.Kind {
	case api.CConst:
		c.Datum = api.Datum{}
	case api.CVar, api.CSet, api.CPerform, api.CDefine:
		c.Name = ""
	case api.CLambda:
		if c.Rest && len(c.Names) == 0 {
			return false
		}
		c.Names, c.Rest = nil, false
	case api.CLet, api.CLetrec:
		parts -= len(c.Names)
		c.Names = nil
	case api.CHandle:
		parts -= len(c.Names)
		c.Names, c.Deep, c.Clauses = nil, false, nil
	}
	c.Parts = nil
	return hasParts(c.Kind, parts) && equal(c, api.Core{Kind: c.Kind})
}

// hasParts asks whether a kind's terms can have so many parts, without one for each name.
func hasParts(kind, n int) bool {
	switch kind {
	case api.CConst, api.CVar, api.CVoid:
		return n == 0
	case api.CSet, api.CLambda, api.CLet, api.CLetrec, api.CHandle, api.CPerform, api.CDefine:
		return n == 1
	case api.CIf:
		return n == 3
	case api.CSeq:
		return n >= 2
	}
	return kind == api.CCall && n >= 1
}

// name is a name's text.
func name(s string) string {
	if rest, ok := strings.CutPrefix(s, " "); ok {
		return "{" + rest + "}"
	}
	return s
}

// formals is the text of names, of which the last one may stand for the rest.
func formals(names []string, rest bool) string {
	var texts []string
	for i, s := range names {
		if rest && i == len(names)-1 {
			texts = append(texts, ".")
		}
		texts = append(texts, name(s))
	}
	return "(" + strings.Join(texts, " ") + ")"
}

// tellAll is terms' texts, with a blank ahead of each.
func tellAll(l []api.Core) string {
	var b strings.Builder
	for _, c := range l {
		b.WriteString(" " + told(c))
	}
	return b.String()
}

// tellClauses is clauses' texts, with a blank ahead of each.
func tellClauses(l []api.Clause) string {
	var b strings.Builder
	for _, x := range l {
		b.WriteString(" (" + x.Label + " " + name(x.Arg) + " " + name(x.K) + " " + told(x.Body) + ")")
	}
	return b.String()
}

// equalData holds two data against each other field by field, floating numbers by their bits.
func equalData(a, b api.Datum) bool {
	if a.Kind != b.Kind || a.N != b.N || a.Text != b.Text || !slices.EqualFunc(a.Items, b.Items, equalData) {
		return false
	}
	return a.Num.Float == b.Num.Float && math.Float64bits(a.Num.F) == math.Float64bits(b.Num.F) && a.Num.I.Neg == b.Num.I.Neg && slices.Equal(a.Num.I.Limbs, b.Num.I.Limbs)
}

// equal holds two terms against each other field by field.
func equal(a, b api.Core) bool {
	return a.Kind == b.Kind && a.Name == b.Name && equalData(a.Datum, b.Datum) && slices.Equal(a.Names, b.Names) && a.Rest == b.Rest && a.Deep == b.Deep && slices.EqualFunc(a.Parts, b.Parts, equal) && slices.EqualFunc(a.Clauses, b.Clauses, equalClause)
}

func equalClause(a, b api.Clause) bool {
	return a.Label == b.Label && a.Arg == b.Arg && a.K == b.K && equal(a.Body, b.Body)
}

// comesOut complains, if the terms of a program haven't these texts.
func comesOut(t *testing.T, program []api.Datum, want ...string) {
	t.Helper()
	l, fault := core.Make(program)
	var got []string
	for _, c := range l {
		got = append(got, told(c))
	}
	if fault != (api.Fault{}) || !slices.Equal(got, want) {
		t.Errorf("%s:\n%s, %v, not\n%s", short(printed(program)), short(strings.Join(got, "\n")), fault, short(strings.Join(want, "\n")))
	}
}

// hasFault complains, if a program hasn't this fault, in this place.
func hasFault(t *testing.T, program []api.Datum, e api.Errno, at int) {
	t.Helper()
	if got, fault := core.Make(program); len(got) != 0 || fault != (api.Fault{Err: e, At: at}) {
		t.Errorf("%s: %s, %v, not %d at %d", short(printed(program)), short(tellAll(got)), fault, e, at)
	}
}

// makes complains, if the terms of a program's text haven't these texts.
func makes(t *testing.T, program string, want ...string) {
	t.Helper()
	comesOut(t, read(t, program), want...)
}

// fails complains, if a program's text hasn't this fault, in this place.
func fails(t *testing.T, program string, e api.Errno, at int) {
	t.Helper()
	hasFault(t, read(t, program), e, at)
}

// ahead is DEFINITIONS of a few names, for what is tried behind them.
const ahead = "(define a 0) (define b 0) (define c 0) (define d 0) (define e 0) (define f 0) "

// is complains, if a datum's TERM hasn't this text, in whichever place it stands.
func is(t *testing.T, text, want string) {
	t.Helper()
	program := func(form, want string) {
		t.Helper()
		makes(t, ahead+form, "(define a '0)", "(define b '0)", "(define c '0)", "(define d '0)", "(define e '0)", "(define f '0)", want)
	}
	if !strings.HasPrefix(text, "(begin") {
		program(text, want)
	}
	program("(lambda () "+text+")", "(lambda () "+want+")")
	program("(if a (car "+text+") 'b)", "(if a [car "+want+"] 'b)")
	program("(handle a (l (x k) "+text+"))", "(deep ({t}) a {t} (l x k "+want+"))")
	program("`(a ,"+text+")", "[cons 'a [cons "+want+" '()]]")
	program("(define x "+text+")", "(define x "+want+")")
}

// isNone complains, if a datum has a TERM, or fails otherwise.
func isNone(t *testing.T, text string, e api.Errno) {
	t.Helper()
	for _, form := range []string{text, "(lambda () " + text + ")", "(if a (car " + text + ") 'b)", "(handle a (l (x k) " + text + "))", "`(,a ,@" + text + " . a)", "(define (x) a " + text + ")"} {
		fails(t, ahead+form+" a", e, 6)
	}
}

// areNone is isNone of many data that fail alike.
func areNone(t *testing.T, e api.Errno, texts ...string) {
	t.Helper()
	for _, text := range texts {
		isNone(t, text, e)
	}
}

var marker = regexp.MustCompile(`[NP]\d`)

// inOrder complains, if what stands in a form isn't looked at in the order of its numbers: P1 is the place of a part that is looked at first, N2 that of a name that is bound then, and so on.
func inOrder(t *testing.T, form string) {
	t.Helper()
	markers := marker.FindAllString(form, -1)
	slices.SortFunc(markers, func(a, b string) int { return strings.Compare(a[1:], b[1:]) })
	faults := func(marker string) map[string]api.Errno {
		if marker[0] == 'N' {
			return map[string]api.Errno{"if": api.ErrBind, "car": api.ErrBind}
		}
		return map[string]api.Errno{"()": api.ErrSyntax, "(lambda (if) 1)": api.ErrBind, "(define-syntax)": api.ErrDefine}
	}
	for i, first := range markers {
		for text, e := range faults(first) {
			fails(t, settled(filled(form, first, text)), e, 0)
			for _, second := range markers[i+1:] {
				for other := range faults(second) {
					fails(t, settled(filled(filled(form, first, text), second, other)), e, 0)
				}
			}
		}
	}
}

// filled is a form with a text in the place of a marker.
func filled(form, place, text string) string {
	return strings.Replace(form, place, text, 1)
}

// settled is a form with what is no fault in the place of each marker that is left: a number, or a name of its own.
func settled(form string) string {
	return marker.ReplaceAllStringFunc(form, func(place string) string {
		if place[0] == 'N' {
			return "n" + place[1:]
		}
		return place[1:]
	})
}

func sym(s string) api.Datum {
	return api.Datum{Kind: api.DSym, Text: s}
}

func list(l ...api.Datum) api.Datum {
	return api.Datum{Kind: api.DList, Items: l}
}

func dot(l ...api.Datum) api.Datum {
	return api.Datum{Kind: api.DDot, Items: l}
}

func vec(l ...api.Datum) api.Datum {
	return api.Datum{Kind: api.DVec, Items: l}
}

// many is n data that are alike.
func many(n int, d api.Datum) []api.Datum {
	return slices.Repeat([]api.Datum{d}, n)
}
