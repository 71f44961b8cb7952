package macro_test

import (
	"fmt"
	"math"
	"slices"
	"strings"
	"testing"

	"distaff/api"
	"distaff/datum"
	"distaff/macro"
	"distaff/reader"
)

// read is the data of a text.
func read(t *testing.T, text string) []api.Datum {
	t.Helper()
	l, fault := reader.Read([]byte(text))
	if fault != (api.Fault{}) {
		t.Fatalf("%q: %v", short(text), fault)
	}
	return l
}

// one is the datum of a text that has one.
func one(t *testing.T, text string) api.Datum {
	t.Helper()
	l := read(t, text)
	if len(l) != 1 {
		t.Fatalf("%q: %d data", short(text), len(l))
	}
	return l[0]
}

// equal holds two data against each other field by field, floating numbers by their bits.
func equal(a, b api.Datum) bool {
	if a.Kind != b.Kind || a.N != b.N || a.Text != b.Text || !slices.EqualFunc(a.Items, b.Items, equal) {
		return false
	}
	return a.Num.Float == b.Num.Float && math.Float64bits(a.Num.F) == math.Float64bits(b.Num.F) && a.Num.I.Neg == b.Num.I.Neg && slices.Equal(a.Num.I.Limbs, b.Num.I.Limbs)
}

// short is a text that isn't too long to be told.
func short(s string) string {
	if len(s) > 300 {
		return s[:150] + " .. " + s[len(s)-150:]
	}
	return s
}

// told is data as they can be told.
func told(l []api.Datum) string {
	var texts []string
	for _, d := range l {
		text, e := datum.Print(d)
		if e != api.OK {
			text = fmt.Sprint(d)
		}
		texts = append(texts, text)
	}
	return short(strings.Join(texts, " "))
}

// comesOut complains, if a program doesn't come out as these data.
func comesOut(t *testing.T, program []api.Datum, want ...api.Datum) {
	t.Helper()
	got, fault := macro.Expand(program)
	if fault != (api.Fault{}) || !slices.EqualFunc(got, want, equal) {
		t.Errorf("%s: %s, %v, not %s", told(program), told(got), fault, told(want))
	}
}

// hasFault complains, if a program hasn't this fault, in this place.
func hasFault(t *testing.T, program []api.Datum, e api.Errno, at int) {
	t.Helper()
	got, fault := macro.Expand(program)
	if len(got) != 0 || fault != (api.Fault{Err: e, At: at}) {
		t.Errorf("%s: %s, %v, not %d at %d", told(program), told(got), fault, e, at)
	}
}

// expands complains, if a program's text doesn't come out as the data of another one.
func expands(t *testing.T, program, want string) {
	t.Helper()
	comesOut(t, read(t, program), read(t, want)...)
}

// fails complains, if a program's text hasn't this fault, in this place.
func fails(t *testing.T, program string, e api.Errno, at int) {
	t.Helper()
	hasFault(t, read(t, program), e, at)
}

// defined is the text of a DEFINITION without LITERALS.
func defined(name string, rules ...string) string {
	return "(define-syntax " + name + " (syntax-rules () " + strings.Join(rules, " ") + "))\n"
}

// ruled is the text of a DEFINITION of m, of one RULE, with the LITERALS lit and else.
func ruled(pattern, template string) string {
	return "(define-syntax m (syntax-rules (lit else) (" + pattern + " " + template + ")))\n"
}

func sym(s string) api.Datum {
	return api.Datum{Kind: api.DSym, Text: s}
}

func list(l ...api.Datum) api.Datum {
	return api.Datum{Kind: api.DList, Items: l}
}

func dot(l ...api.Datum) api.Datum {
	return api.Datum{Kind: api.DDot, Items: l}
}

func vec(l ...api.Datum) api.Datum {
	return api.Datum{Kind: api.DVec, Items: l}
}

// many is n data that are alike.
func many(n int, d api.Datum) []api.Datum {
	return slices.Repeat([]api.Datum{d}, n)
}

// flat is a list that begins with a symbol and has n NODES in all.
func flat(name string, n int) api.Datum {
	return list(append([]api.Datum{sym(name)}, many(n-2, sym("z"))...)...)
}

// nested is a datum in n lists.
func nested(n int, d api.Datum) api.Datum {
	for range n {
		d = list(d)
	}
	return d
}

// shelled is a datum in n vectors.
func shelled(n int, d api.Datum) api.Datum {
	for range n {
		d = vec(d)
	}
	return d
}

// makes is the DEFINITION of a MACRO that makes of (name) a datum.
func makes(name string, made api.Datum) api.Datum {
	return list(sym("define-syntax"), sym(name), list(sym("syntax-rules"), list(), list(list(sym("_")), made)))
}
