package reader_test

import (
	"slices"
	"strings"
	"testing"

	"distaff/api"
	"distaff/datum"
)

// P6.1: data.

// nests is texts of data with Items.
func nests() map[string]api.Datum {
	a, b, c := sym("a"), sym("b"), sym("c")
	return map[string]api.Datum{
		"()": list(), "#()": vec(), "(a)": list(a), "#(a)": vec(a), "(a b c)": list(a, b, c), "#(a b c)": vec(a, b, c), "(())": list(list()), "#(#())": vec(vec()), "(#())": list(vec()), "#(())": vec(list()), "(()())": list(list(), list()), "((a) (b))": list(list(a), list(b)),
		"(a . b)": dot(a, b), "(a b . c)": dot(a, b, c), "(() . a)": dot(list(), a), "((a) . b)": dot(list(a), b), "((a . b) . c)": dot(dot(a, b), c), "((a . b) c)": list(dot(a, b), c), "#((a . b) c)": vec(dot(a, b), c), "(a . #())": dot(a, vec()), "(a . #(b c))": dot(a, vec(b, c)), "(#(a) . b)": dot(vec(a), b),
		"(a . ())": list(a), "(a b . ())": list(a, b), "(a . (b))": list(a, b), "(a . (b c))": list(a, b, c), "(a b . (c))": list(a, b, c), "(a . (b . c))": dot(a, b, c), "(a b . (c . a))": dot(a, b, c, a), "(a . (b . (c)))": list(a, b, c), "(a . (b . (c . ())))": list(a, b, c), "(a . (b c . (a . b)))": dot(a, b, c, a, b),
		"(a . (b . #(c)))": dot(a, b, vec(c)), "(a . ((b) . c))": dot(a, list(b), c), "((a . (b)) . (c))": list(list(a, b), c), "((a . (b)) (c . ()))": list(list(a, b), list(c)), "#((a . (b)) c)": vec(list(a, b), c), "(a . ((b)))": list(a, list(b)), "(() . ())": list(list()), "(() . (()))": list(list(), list()),
		"'a": list(sym("quote"), a), "''a": list(sym("quote"), list(sym("quote"), a)), "'()": list(sym("quote"), list()), "'(a . b)": list(sym("quote"), dot(a, b)), "'#(a)": list(sym("quote"), vec(a)), "(a . 'b)": list(a, sym("quote"), b), "(a . ''b)": list(a, sym("quote"), list(sym("quote"), b)), "(a . '())": list(a, sym("quote"), list()),
		"('a . b)": dot(list(sym("quote"), a), b), "('a 'b)": list(list(sym("quote"), a), list(sym("quote"), b)), "#('a)": vec(list(sym("quote"), a)), "`(a ,b ,@c)": list(sym("quasiquote"), list(a, list(sym("unquote"), b), list(sym("unquote-splicing"), c))), "(a . ,b)": list(a, sym("unquote"), b), "(a . ,@b)": list(a, sym("unquote-splicing"), b), "(a . `b)": list(a, sym("quasiquote"), b),
		"(quote a)": list(sym("quote"), a), "(quote . a)": dot(sym("quote"), a), "(quote . (a))": list(sym("quote"), a), "(quote)": list(sym("quote")), "'quote": list(sym("quote"), sym("quote")), "('a . ('b))": list(list(sym("quote"), a), list(sym("quote"), b)), "'(a . (b))": list(sym("quote"), list(a, b)),
		"(a.b . c)": dot(sym("a.b"), c), "(... . ..)": dot(sym("..."), sym("..")), "(1 . 2)": dot(exactly(false, 1), exactly(false, 2)), "(1 .5)": list(exactly(false, 1), floating(0.5)), "(a . \"b\")": dot(a, str("b")), "(a . #\\b)": dot(a, char('b')), "(#\\( . #\\))": dot(char('('), char(')')), "(\"(\" \")\" \".\")": list(str("("), str(")"), str(".")),
	}
}

func TestTokensThatAreData(t *testing.T) {
	for text, d := range singles() {
		reads(t, text, d)
		reads(t, text+" "+text, d, d)
		reads(t, "("+text+")", list(d))
		reads(t, "#("+text+" "+text+")", vec(d, d))
		reads(t, "("+text+" . "+text+")", dot(d, d))
		reads(t, "("+text+" "+text+" . "+text+" )", dot(d, d, d))
		reads(t, "("+text+" . ("+text+" . "+text+"))", dot(d, d, d))
		reads(t, "("+text+" . ("+text+"))", list(d, d))
	}
}

func TestNests(t *testing.T) {
	a, b := sym("a"), sym("b")
	for text, d := range nests() {
		reads(t, text, d)
		reads(t, text+" "+text, d, d)
		reads(t, "a "+text+" b", a, d, b)
		reads(t, "("+text+")", list(d))
		reads(t, "(a "+text+" "+text+" b)", list(a, d, d, b))
		reads(t, "#("+text+" a)", vec(d, a))
		reads(t, "("+text+" . a)", dot(d, a))
		reads(t, "(a . #("+text+"))", dot(a, vec(d)))
		for quote, name := range quotes() {
			reads(t, quote+text, list(sym(name), d))
			reads(t, "("+quote+text+" b)", list(list(sym(name), d), b))
			reads(t, "#(a "+quote+" "+text+")", vec(a, list(sym(name), d)))
			reads(t, "(a . "+quote+text+")", list(a, sym(name), d))
			reads(t, "("+quote+text+" . b)", dot(list(sym(name), d), b))
			for second, other := range quotes() {
				reads(t, quote+" "+second+text, list(sym(name), list(sym(other), d)))
			}
		}
	}
}

// Each datum within, ahead of, behind and as the tail of each other.
func TestNestsWithinEachOther(t *testing.T) {
	for first, d := range nests() {
		for second, e := range nests() {
			reads(t, first+" "+second, d, e)
			reads(t, "("+first+" "+second+")", list(d, e))
			reads(t, "#("+first+"\n"+second+")", vec(d, e))
			want := dot(d, e)
			if e.Kind == api.DList || e.Kind == api.DDot {
				want = api.Datum{Kind: e.Kind, Items: slices.Concat([]api.Datum{d}, e.Items)}
			}
			reads(t, "("+first+" . "+second+")", want)
			if want.Kind == api.DDot || want.Kind == api.DList {
				reads(t, "(a . ("+first+" . "+second+"))", api.Datum{Kind: want.Kind, Items: slices.Concat([]api.Datum{sym("a")}, want.Items)})
			}
		}
	}
}

// What a tail makes of much that stands ahead of it, and of a tail that is long.
func TestLongTails(t *testing.T) {
	ahead, behind := syms(strings.Repeat("a ", 900)), syms(strings.Repeat("b ", 900))
	first, second := strings.Repeat("a ", 900), strings.Repeat("b ", 900)
	reads(t, "("+first+". c)", dot(append(slices.Clone(ahead), sym("c"))...))
	reads(t, "("+first+". ("+second+"))", list(slices.Concat(ahead, behind)...))
	reads(t, "("+first+". ("+second+". c))", dot(slices.Concat(ahead, behind, syms("c"))...))
	reads(t, "(c . ("+first+". ("+second+")))", list(slices.Concat(syms("c"), ahead, behind)...))
	reads(t, "("+first+". #(b))", dot(append(slices.Clone(ahead), vec(sym("b")))...))
	for n := range 70 {
		reads(t, "("+strings.Repeat("a ", n+1)+". ("+strings.Repeat("b ", n)+"))", list(slices.Concat(ahead[:n+1], behind[:n])...))
	}
}

// layouts is ways of laying a text within another, that make data one deeper each.
func layouts() []func(text string, d api.Datum) (string, api.Datum) {
	a := sym("a")
	l := []func(text string, d api.Datum) (string, api.Datum){
		func(text string, d api.Datum) (string, api.Datum) { return "(" + text + ")", list(d) },
		func(text string, d api.Datum) (string, api.Datum) { return "(a " + text + " a)", list(a, d, a) },
		func(text string, d api.Datum) (string, api.Datum) { return "#(" + text + ")", vec(d) },
		func(text string, d api.Datum) (string, api.Datum) { return "#(" + text + " a)", vec(d, a) },
		func(text string, d api.Datum) (string, api.Datum) { return "(" + text + " . a)", dot(d, a) },
	}
	for quote, name := range quotes() {
		l = append(l, func(text string, d api.Datum) (string, api.Datum) { return quote + text, list(sym(name), d) })
	}
	return l
}

func TestDeepData(t *testing.T) {
	for start, atom := range map[string]api.Datum{"a": sym("a"), "\"b\"": str("b"), "#\\)": char(')'), "()": list(), "#()": vec()} {
		most := 60
		if atom.Kind >= api.DList {
			most = 59 // it is a bracket itself
		}
		ways := layouts()
		for i := range ways {
			text, d := start, atom
			mixed, e := start, atom
			for k := range most {
				text, d = ways[i](text, d)
				mixed, e = ways[(i+k)%len(ways)](mixed, e)
				reads(t, text, d)
				reads(t, mixed, e)
			}
		}
	}
	text, want := "(b)", syms("b")
	for range 59 {
		text, want = "(a . "+text+")", append(syms("a"), want...)
		reads(t, text, list(want...))
	}
}

// With layer 5: what Print gives is read as just these data.

// printed is data of all kinds that can be.
func printed() []api.Datum {
	var l []api.Datum
	for _, d := range singles() {
		l = append(l, d)
	}
	for _, d := range nests() {
		l = append(l, d)
	}
	for n := range 300 {
		l = append(l, char(n), str(string(rune(n))), vec(char(n), str("a"+string(rune(n))+"b"), dot(sym("a"), char(n))))
	}
	for _, n := range []int{0x7ff, 0x800, 0xd7ff, 0xe000, 0xfeff, 0xfffd, 0xffff, 0x10000, 0x1f600, 0x10ffff} {
		l = append(l, char(n), str(strings.Repeat(string(rune(n)), 400)), list(char(n), char(n)))
	}
	for _, f := range []float64{0.1, -1.25, 100, 1e21, 1e-4, 5e-324, 1.7976931348623157e308, 123456789.125} {
		l = append(l, floating(f), list(floating(-f), floating(f)))
	}
	full := make([]uint32, 64)
	for i := range full {
		full[i] = 4294967295
	}
	return append(l, exactly(false, full...), exactly(true, full...), list(many(2999, list())...), dot(many(2999, sym("a"))...), vec(many(200, vec())...), list(many(14, vec(many(200, sym("a"))...))...), str(strings.Repeat("\x1f", 400)), sym(strings.Repeat("a", 40)))
}

func TestWhatPrintGivesIsRead(t *testing.T) {
	for _, d := range printed() {
		text, e := datum.Print(d)
		if e != api.OK || len(text) > 20000 {
			t.Fatal(short(text), e)
		}
		reads(t, text, d)
		reads(t, " "+text+"\n;"+text[:min(100, len(text))], d)
	}
}

// Several data, one behind the other.
func TestWhatPrintGivesOfSeveralIsRead(t *testing.T) {
	all := printed()
	for _, gap := range gaps() {
		var texts []string
		var want []api.Datum
		nodes, size := 0, 0
		for i, d := range all {
			text, _ := datum.Print(d)
			if nodes += datum.Nodes(d); nodes > 3000 || size+len(text)+len(gap) > 20000 {
				reads(t, strings.Join(texts, gap), want...)
				texts, want, nodes, size = nil, nil, datum.Nodes(d), 0
			}
			texts, want, size = append(texts, text), append(want, d), size+len(text)+len(gap)
			if i == len(all)-1 {
				reads(t, strings.Join(texts, gap), want...)
			}
		}
	}
}

// All that is read can be, and its text is read as the same again.
func TestWhatIsReadCanBe(t *testing.T) {
	for text, d := range nests() {
		if !datum.Right(d) {
			t.Error(text)
		}
		again, e := datum.Print(d)
		if e != api.OK {
			t.Error(text, e)
		}
		reads(t, again, d)
	}
}
