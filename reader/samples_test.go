package reader_test

import (
	"fmt"
	"math"
	"slices"
	"strings"
	"testing"

	"distaff/api"
	"distaff/reader"
)

// Data are laid out by hand here, so that the tests lean on none of the calls below.

func exactly(neg bool, limbs ...uint32) api.Datum {
	return api.Datum{Kind: api.DNum, Num: api.Num{I: api.Int{Neg: neg, Limbs: limbs}}}
}

func floating(f float64) api.Datum {
	return api.Datum{Kind: api.DNum, Num: api.Num{Float: true, F: f}}
}

func truth(n int) api.Datum {
	return api.Datum{Kind: api.DBool, N: n}
}

func char(n int) api.Datum {
	return api.Datum{Kind: api.DChar, N: n}
}

func str(s string) api.Datum {
	return api.Datum{Kind: api.DStr, Text: s}
}

func sym(s string) api.Datum {
	return api.Datum{Kind: api.DSym, Text: s}
}

func list(l ...api.Datum) api.Datum {
	return api.Datum{Kind: api.DList, Items: l}
}

func dot(l ...api.Datum) api.Datum {
	return api.Datum{Kind: api.DDot, Items: l}
}

func vec(l ...api.Datum) api.Datum {
	return api.Datum{Kind: api.DVec, Items: l}
}

// syms is a symbol for each of some names.
func syms(names string) []api.Datum {
	var l []api.Datum
	for _, name := range strings.Fields(names) {
		l = append(l, sym(name))
	}
	return l
}

// many is n data that are alike.
func many(n int, d api.Datum) []api.Datum {
	return slices.Repeat([]api.Datum{d}, n)
}

// quotes is the QUOTES and the names of their symbols.
func quotes() map[string]string {
	return map[string]string{"'": "quote", "`": "quasiquote", ",": "unquote", ",@": "unquote-splicing"}
}

// singles is TOKENS that are data, in texts that need nothing between.
func singles() map[string]api.Datum {
	return map[string]api.Datum{
		"a": sym("a"), "...": sym("..."), "-": sym("-"), "1": exactly(false, 1), "-5": exactly(true, 5), "0": exactly(false), "1.5": floating(1.5), "+inf.0": floating(math.Inf(1)),
		"#t": truth(1), "#f": truth(0), `#\a`: char('a'), `#\space`: char(' '), `#\x3bb`: char(955), `#\)`: char(')'), `""`: str(""), `"a b"`: str("a b"), `"\""`: str(`"`), "\"\u03bb;)\"": str("\u03bb;)"),
	}
}

// equal holds two data against each other field by field, floating numbers by their bits.
func equal(a, b api.Datum) bool {
	if a.Kind != b.Kind || a.N != b.N || a.Text != b.Text || !slices.EqualFunc(a.Items, b.Items, equal) {
		return false
	}
	return a.Num.Float == b.Num.Float && math.Float64bits(a.Num.F) == math.Float64bits(b.Num.F) && a.Num.I.Neg == b.Num.I.Neg && slices.Equal(a.Num.I.Limbs, b.Num.I.Limbs)
}

// short is a text that isn't too long to be told.
func short(s string) string {
	if len(s) > 100 {
		return s[:50] + " .. " + s[len(s)-50:]
	}
	return s
}

// told is data as they can be told.
func told(l []api.Datum) string {
	return short(fmt.Sprint(l))
}

// reads complains, if these aren't the data of a text.
func reads(t *testing.T, text string, want ...api.Datum) {
	t.Helper()
	got, fault := reader.Read([]byte(text))
	if fault != (api.Fault{}) || !slices.EqualFunc(got, want, equal) {
		t.Errorf("%q: %s, %v, not %s", short(text), told(got), fault, told(want))
	}
}

// fails complains, if a text hasn't this fault, in this place.
func fails(t *testing.T, text string, e api.Errno, at int) {
	t.Helper()
	got, fault := reader.Read([]byte(text))
	if len(got) != 0 || fault != (api.Fault{Err: e, At: at}) {
		t.Errorf("%q: %s, %v, not %d at %d", short(text), told(got), fault, e, at)
	}
}

// fitting is what may stand ahead of a TOKEN that has a fault of its own, and changes nothing in that.
func fitting() []string {
	return []string{"", " ", "a ", "(", "#(", "'", ",@", "(a . ", "(a . b ", "\"b\"", "#\\a ", ";c\n", "(b) ", "\"\u03bb\""}
}

// failsAnywhere complains, if a text hasn't this fault at its own first byte, whatever stands ahead of it or behind.
func failsAnywhere(t *testing.T, text string, e api.Errno) {
	t.Helper()
	for _, ahead := range fitting() {
		fails(t, ahead+text, e, len(ahead))
		if e != api.ErrOpen { // what follows may close it
			fails(t, ahead+text+" a", e, len(ahead))
			fails(t, ahead+text+")", e, len(ahead))
			fails(t, ahead+text+"\n'\"", e, len(ahead))
		}
	}
}
