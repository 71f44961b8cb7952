package free_test

import (
	"fmt"
	"math"
	"slices"
	"strings"
	"testing"

	"distaff/api"
	"distaff/core"
	"distaff/datum"
	"distaff/free"
	"distaff/reader"
)

// made is the terms of a program's text.
func made(t *testing.T, text string) []api.Core {
	t.Helper()
	data, fault := reader.Read([]byte(text))
	if fault != (api.Fault{}) {
		t.Fatalf("%s: can't be read: %v", text, fault)
	}
	l, fault := core.Make(data)
	if fault != (api.Fault{}) {
		t.Fatalf("%s: can't be made: %v", text, fault)
	}
	return l
}

// Terms are told as texts: 'd is a constant, [f a] a call, #void CVoid; all others have a word ahead. {t} is T, x.1 a name with its number.

// told is a term's text.
func told(c api.Core) string {
	parts := tellAll(c.Parts)
	switch c.Kind {
	case api.CConst:
		text, e := datum.Print(c.Datum)
		if e != api.OK {
			text = fmt.Sprint(c.Datum)
		}
		return "'" + text
	case api.CVar:
		return name(c.Name)
	case api.CSet:
		return "(set! " + name(c.Name) + parts + ")"
	case api.CIf:
		return "(if" + parts + ")"
	case api.CLambda:
		return "(lambda " + formals(c) + parts + ")"
	case api.CSeq:
		return "(seq" + parts + ")"
	case api.CCall:
		return "[" + strings.TrimPrefix(parts, " ") + "]"
	case api.CLet:
		return "(let " + formals(c) + parts + ")"
	case api.CLetrec:
		return "(letrec " + formals(c) + parts + ")"
	case api.CHandle:
		return "(" + map[bool]string{false: "shallow ", true: "deep "}[c.Deep] + formals(c) + parts + tellClauses(c.Clauses) + ")"
	case api.CPerform:
		return "(perform " + name(c.Name) + parts + ")"
	case api.CDefine:
		return "(define " + name(c.Name) + parts + ")"
	case api.CVoid:
		return "#void"
	}
	return fmt.Sprintf("%+v", c)
}

// name is a name's text.
func name(s string) string {
	rest, special := strings.CutPrefix(s, " ")
	first, number, has := strings.Cut(rest, " ")
	if special {
		first = "{" + first + "}"
	}
	if has {
		first += "." + number
	}
	return first
}

// formals is the text of a term's Names.
func formals(c api.Core) string {
	var texts []string
	for i, s := range c.Names {
		if c.Rest && i == len(c.Names)-1 {
			texts = append(texts, ".")
		}
		texts = append(texts, name(s))
	}
	return "(" + strings.Join(texts, " ") + ")"
}

// tellAll is terms' texts, with a blank ahead of each.
func tellAll(l []api.Core) string {
	var b strings.Builder
	for _, c := range l {
		b.WriteString(" " + told(c))
	}
	return b.String()
}

// tellClauses is clauses' texts, with a blank ahead of each.
func tellClauses(l []api.Clause) string {
	var b strings.Builder
	for _, x := range l {
		b.WriteString(" (" + name(x.Label) + " " + name(x.Arg) + " " + name(x.K) + " " + told(x.Body) + ")")
	}
	return b.String()
}

// equalData holds two data against each other field by field, floating numbers by their bits.
func equalData(a, b api.Datum) bool {
	if a.Kind != b.Kind || a.N != b.N || a.Text != b.Text || !slices.EqualFunc(a.Items, b.Items, equalData) {
		return false
	}
	return a.Num.Float == b.Num.Float && math.Float64bits(a.Num.F) == math.Float64bits(b.Num.F) && a.Num.I.Neg == b.Num.I.Neg && slices.Equal(a.Num.I.Limbs, b.Num.I.Limbs)
}

// equal holds two terms against each other field by field.
func equal(a, b api.Core) bool {
	return a.Kind == b.Kind && a.Name == b.Name && equalData(a.Datum, b.Datum) && slices.Equal(a.Names, b.Names) && a.Rest == b.Rest && a.Deep == b.Deep && slices.EqualFunc(a.Parts, b.Parts, equal) && slices.EqualFunc(a.Clauses, b.Clauses, equalClause)
}

func equalClause(a, b api.Clause) bool {
	return a.Label == b.Label && a.Arg == b.Arg && a.K == b.K && equal(a.Body, b.Body)
}

// unnamed is a term in other memory, without the names that Unique may change.
func unnamed(c api.Core) api.Core {
	c = copied(c)
	forget(&c)
	return c
}

func forget(c *api.Core) {
	if c.Kind == api.CVar || c.Kind == api.CSet {
		c.Name = ""
	}
	clear(c.Names)
	for i := range c.Parts {
		forget(&c.Parts[i])
	}
	for i := range c.Clauses {
		c.Clauses[i].Arg, c.Clauses[i].K = "", ""
		forget(&c.Clauses[i].Body)
	}
}

// copied is the same term in other memory.
func copied(c api.Core) api.Core {
	c.Datum = datum.Copy(c.Datum)
	c.Names, c.Clauses = slices.Clone(c.Names), slices.Clone(c.Clauses)
	c.Parts = allCopied(c.Parts)
	for i := range c.Clauses {
		c.Clauses[i].Body = copied(c.Clauses[i].Body)
	}
	return c
}

func allCopied(l []api.Core) []api.Core {
	l = slices.Clone(l)
	for i := range l {
		l[i] = copied(l[i])
	}
	return l
}

// short is a text that isn't too long to be told.
func short(s string) string {
	if len(s) > 600 {
		return s[:300] + " .. " + s[len(s)-300:]
	}
	return s
}

// unique complains, if the Unique terms of a program haven't these texts, or if something else but names has changed.
func unique(t *testing.T, program string, want ...string) {
	t.Helper()
	l := made(t, program)
	var got []string
	for i, c := range free.Unique(l) {
		got = append(got, told(c))
		if i < len(l) && !equal(unnamed(c), unnamed(l[i])) {
			t.Errorf("%s: %+v has become %+v", program, l[i], c)
		}
	}
	if !slices.Equal(got, want) {
		t.Errorf("%s:\n%s, not\n%s", short(program), short(strings.Join(got, "\n")), short(strings.Join(want, "\n")))
	}
}

// last is the last term of a program.
func last(t *testing.T, program string) api.Core {
	t.Helper()
	l := made(t, program)
	return l[len(l)-1]
}

// ahead is DEFINITIONS of a few names, for what is tried behind them.
const ahead = "(define a 0) (define b 0) (define c 0) (define d 0) (define x 0) (define y 0) (define z 0) (define k 0) "

// names complains, if a call finds other names in a term's text than those that are given with blanks between.
func names(t *testing.T, call func(api.Core) []string, text, want string) {
	t.Helper()
	var got []string
	for _, s := range call(last(t, ahead+text)) {
		got = append(got, name(s))
	}
	if !slices.Equal(got, strings.Fields(want)) {
		t.Errorf("%s: %q, not %q", text, got, want)
	}
}

// frees complains, if a term uses other names, but doesn't bind them.
func frees(t *testing.T, text, want string) {
	t.Helper()
	names(t, free.Free, text, want)
}

// assigns complains, if other names change in a term.
func assigns(t *testing.T, text, want string) {
	t.Helper()
	names(t, free.Assigned, text, want)
}
