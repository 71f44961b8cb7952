package datum_test

import (
	"math"
	"slices"
	"strings"

	"distaff/api"
)

// Data are laid out by hand here, so that the tests lean on none of the calls.

func exactly(neg bool, limbs ...uint32) api.Datum {
	return api.Datum{Kind: api.DNum, Num: api.Num{I: api.Int{Neg: neg, Limbs: limbs}}}
}

func floating(f float64) api.Datum {
	return api.Datum{Kind: api.DNum, Num: api.Num{Float: true, F: f}}
}

func truth(n int) api.Datum {
	return api.Datum{Kind: api.DBool, N: n}
}

func char(n int) api.Datum {
	return api.Datum{Kind: api.DChar, N: n}
}

func str(s string) api.Datum {
	return api.Datum{Kind: api.DStr, Text: s}
}

func sym(s string) api.Datum {
	return api.Datum{Kind: api.DSym, Text: s}
}

func list(l ...api.Datum) api.Datum {
	return api.Datum{Kind: api.DList, Items: l}
}

func dot(l ...api.Datum) api.Datum {
	return api.Datum{Kind: api.DDot, Items: l}
}

func vec(l ...api.Datum) api.Datum {
	return api.Datum{Kind: api.DVec, Items: l}
}

// many is n data that are alike.
func many(n int, d api.Datum) []api.Datum {
	return slices.Repeat([]api.Datum{d}, n)
}

// wraps is the ways of laying a datum within another, that has more than one Item in one of two.
func wraps() []func(d api.Datum) api.Datum {
	a := sym("a")
	return []func(d api.Datum) api.Datum{
		func(d api.Datum) api.Datum { return list(d) },
		func(d api.Datum) api.Datum { return list(a, d) },
		func(d api.Datum) api.Datum { return vec(d) },
		func(d api.Datum) api.Datum { return vec(d, a, a) },
		func(d api.Datum) api.Datum { return dot(d, a) },
		func(d api.Datum) api.Datum { return dot(a, d, a) },
	}
}

// nested is a datum within n others, each wrapped by the next of some ways.
func nested(n int, d api.Datum, ways ...func(d api.Datum) api.Datum) api.Datum {
	for i := range n {
		d = ways[i%len(ways)](d)
	}
	return d
}

// sample is a RIGHT datum, its text, and how many data it is made of.
type sample struct {
	d     api.Datum
	text  string
	nodes int
}

// atoms is data without Items, no two of them the same.
func atoms() []sample {
	return []sample{
		{exactly(false), "0", 1}, {exactly(false, 1), "1", 1}, {exactly(true, 1), "-1", 1}, {exactly(false, 2), "2", 1},
		{exactly(false, 0, 1), "4294967296", 1}, {exactly(false, 1, 1), "4294967297", 1}, {exactly(true, 0, 0, 1), "-18446744073709551616", 1},
		{floating(0), "0.0", 1}, {floating(math.Copysign(0, -1)), "-0.0", 1}, {floating(1), "1.0", 1}, {floating(-0.5), "-0.5", 1}, {floating(1e21), "1.0e21", 1},
		{floating(math.Inf(1)), "+inf.0", 1}, {floating(math.Inf(-1)), "-inf.0", 1}, {floating(math.NaN()), "+nan.0", 1},
		{truth(0), "#f", 1}, {truth(1), "#t", 1},
		{char(0), `#\nul`, 1}, {char(1), `#\x1`, 1}, {char(' '), `#\space`, 1}, {char('a'), `#\a`, 1}, {char('A'), `#\A`, 1}, {char('('), `#\(`, 1}, {char(955), `#\x3bb`, 1},
		{str(""), `""`, 1}, {str("a"), `"a"`, 1}, {str("A"), `"A"`, 1}, {str("1"), `"1"`, 1}, {str("a b"), `"a b"`, 1}, {str("a\"\\\n"), `"a\"\\\n"`, 1}, {str("\u03bb\u20ac\U0001F600"), "\"\u03bb\u20ac\U0001F600\"", 1},
		{sym("a"), "a", 1}, {sym("A"), "A", 1}, {sym("ab"), "ab", 1}, {sym("quote"), "quote", 1}, {sym("..."), "...", 1}, {sym("-"), "-", 1}, {sym("list->vector"), "list->vector", 1},
	}
}

// nests is data with Items, no two of them the same.
func nests() []sample {
	a, b, one := sym("a"), sym("b"), exactly(false, 1)
	return []sample{
		{list(), "()", 1}, {vec(), "#()", 1},
		{list(a), "(a)", 2}, {vec(a), "#(a)", 2}, {list(list(a)), "((a))", 3}, {vec(vec(a)), "#(#(a))", 3}, {list(vec(a)), "(#(a))", 3}, {vec(list(a)), "#((a))", 3},
		{list(a, b), "(a b)", 3}, {list(b, a), "(b a)", 3}, {vec(a, b), "#(a b)", 3}, {dot(a, b), "(a . b)", 3}, {dot(b, a), "(b . a)", 3},
		{list(a, b, one), "(a b 1)", 4}, {vec(a, b, one), "#(a b 1)", 4}, {dot(a, b, one), "(a b . 1)", 4}, {dot(a, str(`"`), one), `(a "\"" . 1)`, 4},
		{list(list(), vec()), "(() #())", 3}, {vec(list(), vec()), "#(() #())", 3}, {list(list(list()), list()), "((()) ())", 4}, {list(list(), list(list())), "(() (()))", 4},
		{dot(list(), vec()), "(() . #())", 3}, {dot(dot(a, b), one), "((a . b) . 1)", 5}, {list(dot(a, b), one), "((a . b) 1)", 5}, {dot(a, vec(list(b), dot(a, b))), "(a . #((b) (a . b)))", 8},
		{list(sym("quote"), a), "(quote a)", 3}, {dot(sym("quote"), list(), str("")), `(quote () . "")`, 4}, {list(truth(1), truth(0), char(')'), floating(0.5)), `(#t #f #\) 0.5)`, 5},
	}
}

func samples() []sample {
	return append(atoms(), nests()...)
}

// borders is the greatest data that are RIGHT, and how many data each is made of.
func borders() []sample {
	l := []sample{
		{d: exactly(true, slices.Repeat([]uint32{math.MaxUint32}, 64)...), nodes: 1},
		{d: sym(strings.Repeat("a", 40)), nodes: 1}, {d: sym(strings.Repeat(".", 40)), nodes: 1},
		{d: char(0xD7FF), nodes: 1}, {d: char(0xE000), nodes: 1}, {d: char(0x10FFFF), nodes: 1},
		{d: vec(many(200, list())...), nodes: 201}, {d: list(many(2999, list())...), nodes: 3000}, {d: dot(many(2999, sym("a"))...), nodes: 3000},
		{d: vec(many(199, list(many(14, vec())...))...), nodes: 2986}, {d: dot(list(many(1999, truth(1))...), list(many(997, truth(0))...), vec()), nodes: 3000},
		{d: list(many(999, dot(sym("a"), sym("b")))...), nodes: 2998}, {d: list(list(), list(list(many(2996, vec())...))), nodes: 3000},
		{d: list(many(49, nested(58, list(), wraps()[0]))...), nodes: 2892}, {d: list(list(), nested(58, list(sym("a")), wraps()...), list()), nodes: 120},
	}
	for _, sign := range []string{"a", "\x00", "\u03bb", "\u20ac", "\uFFFD", "\U0001F600", "\U0010FFFF"} {
		l = append(l, sample{d: str(strings.Repeat(sign, 400)), nodes: 1})
	}
	for i := range wraps() {
		l = append(l, sample{d: nested(60, sym("a"), wraps()[i]), nodes: 1 + 60*[]int{1, 2, 1, 3, 2, 3}[i]})
	}
	return append(l, sample{d: nested(59, list(), wraps()[0]), nodes: 60}, sample{d: nested(59, vec(), wraps()[2]), nodes: 60}, sample{d: nested(60, sym("a"), wraps()...), nodes: 121})
}

// wrong is a datum that isn't RIGHT, and by what.
type wrong struct {
	by string
	d  api.Datum
}

// wrongKinds is data of no kind.
func wrongKinds() []wrong {
	var l []wrong
	for _, kind := range []int{math.MinInt, -1, 8, 9, 256, 1<<32 + api.DSym, math.MaxInt} {
		l = append(l,
			wrong{"kind", api.Datum{Kind: kind}}, wrong{"kind with an N", api.Datum{Kind: kind, N: 1}}, wrong{"kind with a Text", api.Datum{Kind: kind, Text: "a"}},
			wrong{"kind with Items", api.Datum{Kind: kind, Items: []api.Datum{sym("a"), sym("b")}}})
	}
	return l
}

// wrongAtoms is data that have what their kind has, but not as it must be.
func wrongAtoms() []wrong {
	l := []wrong{
		{"a leading zero", exactly(false, 0)}, {"leading zeros", exactly(false, 1, 0, 0)}, {"too many limbs", exactly(false, slices.Repeat([]uint32{1}, 65)...)}, {"-0", exactly(true)},
		{"F beside limbs", api.Datum{Num: api.Num{F: 1, I: api.Int{Limbs: []uint32{1}}}}}, {"F", api.Datum{Num: api.Num{F: math.Copysign(0, -1)}}}, {"F", api.Datum{Num: api.Num{F: math.NaN()}}},
		{"limbs beside F", api.Datum{Num: api.Num{Float: true, I: api.Int{Limbs: []uint32{1}}}}}, {"a sign beside F", api.Datum{Num: api.Num{Float: true, F: 1, I: api.Int{Neg: true}}}},
	}
	for _, n := range []int{math.MinInt, -1 << 32, -1, 2, 255, 1 << 32, 1<<32 + 1, math.MaxInt} {
		l = append(l, wrong{"a truth", truth(n)})
	}
	for _, n := range []int{math.MinInt, -1 << 32, -1<<32 + 'a', -1, 0xD800, 0xDBFF, 0xDC00, 0xDFFF, 0x110000, math.MaxInt32, 1 << 32, 1<<32 + 'a', math.MaxInt} {
		l = append(l, wrong{"a sign", char(n)})
	}
	for _, s := range []string{
		"\xff", "\x80", "a\xc3", "\xc3a", "a\xe2\x82", "\xf0\x9f\x98", "\xc0\x80", "\xe0\x80\x80", "\xed\xa0\x80", "\xed\xbf\xbf", "\xf4\x90\x80\x80", "\xfe", strings.Repeat("a", 399) + "\xff", strings.Repeat("\u20ac", 399) + "\xe2",
		strings.Repeat("a", 401), strings.Repeat("\u03bb", 401), strings.Repeat("\U0001F600", 401), strings.Repeat("\uFFFD", 401), strings.Repeat("a", 1<<20),
	} {
		l = append(l, wrong{"a text", str(s)})
	}
	for _, s := range []string{"", ".", "1", "-1.5", "+inf.0", "1e5", "a b", "a;", "(", "\u03bb", "\xff", strings.Repeat("a", 41), strings.Repeat("9", 700), strings.Repeat("a", 1<<20)} {
		l = append(l, wrong{"a symbol", sym(s)})
	}
	return l
}

// wrongNests is data with Items that are RIGHT, which can't stand together so.
func wrongNests() []wrong {
	a := sym("a")
	l := []wrong{
		{"a tail alone", dot(a)}, {"neither Item nor tail", dot()}, {"a tail of a vector alone", dot(vec(a))},
		{"a list as tail", dot(a, list(a))}, {"an empty list as tail", dot(a, list())}, {"a list with a tail as tail", dot(a, dot(a, a))}, {"a list as tail of many", dot(a, a, a, a, list(a, a))},
		{"a vector of 201", vec(many(201, a)...)}, {"a vector of 3001", vec(many(3001, a)...)}, {"a vector of 2999", vec(many(2999, a)...)},
		{"3001 NODES", list(many(3000, a)...)}, {"3001 NODES with a tail", dot(many(3000, a)...)}, {"3001 NODES in vectors", vec(many(200, list(many(14, a)...))...)},
		{"3001 NODES in two lists", list(list(many(1499, a)...), list(many(1499, a)...))}, {"3001 NODES, the last one deep", list(list(many(2950, a)...), nested(48, a, wraps()[0]))},
		{"many NODES", list(many(1<<17, a)...)}, {"many NODES in many lists", list(many(1<<10, list(many(1<<10, a)...))...)},
		{"deep behind what isn't", list(a, list(), nested(60, a, wraps()[0]))}, {"deep ahead of what isn't", dot(nested(60, a, wraps()[2]), list(), a)},
		{"empty at depth 61", nested(60, list(), wraps()[0])}, {"an empty vector at depth 61", nested(60, vec(), wraps()[2])}, {"depth 61 by all ways", nested(61, a, wraps()...)},
	}
	for _, way := range wraps() {
		l = append(l, wrong{"depth 61", nested(61, a, way)}, wrong{"depth 62", nested(62, a, way)}, wrong{"depth 1000", nested(1000, a, way)})
	}
	return append(l, wrong{"a deep tail", dot(a, nested(60, a, wraps()[2]))})
}

// without is data whose kind doesn't have a field.
func without(fits func(kind int) bool) []api.Datum {
	var l []api.Datum
	for _, s := range samples() {
		if !fits(s.d.Kind) {
			l = append(l, s.d)
		}
	}
	return l
}

// wrongFields is data with something that their kind doesn't have.
func wrongFields() []wrong {
	var l []wrong
	for _, d := range without(func(kind int) bool { return kind == api.DBool || kind == api.DChar }) {
		for _, n := range []int{math.MinInt, -1, 1, 1 << 32, math.MaxInt} {
			d.N = n
			l = append(l, wrong{"an N", d})
		}
	}
	for _, d := range without(func(kind int) bool { return kind == api.DNum }) {
		for _, num := range []api.Num{
			{Float: true}, {Float: true, F: 1}, {F: 1}, {F: math.Copysign(0, -1)}, {F: math.NaN()}, {I: api.Int{Neg: true}}, {I: api.Int{Limbs: []uint32{1}}}, {I: api.Int{Neg: true, Limbs: []uint32{1}}}, {I: api.Int{Limbs: []uint32{0}}},
		} {
			d.Num = num
			l = append(l, wrong{"a Num", d})
		}
	}
	for _, d := range without(func(kind int) bool { return kind == api.DStr || kind == api.DSym }) {
		for _, text := range []string{"a", "\x00", "\xff"} {
			d.Text = text
			l = append(l, wrong{"a Text", d})
		}
	}
	for _, d := range without(func(kind int) bool { return kind >= api.DList }) {
		for _, items := range [][]api.Datum{{{}}, {sym("a")}, {list()}, {sym("a"), sym("b")}, many(201, sym("a"))} {
			d.Items = items
			l = append(l, wrong{"Items", d})
		}
	}
	return l
}

// wrongParts is data that have one of the others within them.
func wrongParts() []wrong {
	var l []wrong
	a := sym("a")
	for _, w := range slices.Concat(wrongKinds(), wrongAtoms(), wrongNests(), wrongFields()[:40]) {
		for _, way := range wraps() {
			l = append(l, wrong{w.by + " within", way(w.d)}, wrong{w.by + " far within", nested(7, w.d, way)})
		}
		l = append(l, wrong{w.by + " ahead", list(w.d, a, list())}, wrong{w.by + " between", vec(list(), w.d, a)}, wrong{w.by + " behind", list(list(a), list(a, w.d))}, wrong{w.by + " as tail", dot(a, w.d)})
	}
	return l
}

// wrongs is all of these, and data that hardly end, or don't.
func wrongs() []wrong {
	return slices.Concat(wrongKinds(), wrongAtoms(), wrongNests(), wrongFields(), wrongParts(), endless())
}

// endless is data as deep as the document has them at most, data with more parts than can be gone through, and data that lie in themselves.
func endless() []wrong {
	var l []wrong
	for _, way := range wraps() {
		l = append(l, wrong{"depth 65535", nested(1<<16-1, list(), way)})
	}
	l = append(l, wrong{"depth 1000000", nested(1000000, sym("a"), wraps()[0])}, wrong{"a depth of all ways", nested(1<<16-1, sym("a"), wraps()...)})
	for _, kind := range []int{api.DNum, api.DStr, api.DList, api.DDot, api.DVec, 8} {
		twice := func(d api.Datum) api.Datum { return api.Datum{Kind: kind, Items: []api.Datum{d, d}} }
		l = append(l, wrong{"2 to the power of 60 parts", nested(60, sym("a"), twice)})
		ring := api.Datum{Kind: kind, Items: make([]api.Datum, 3)}
		ring.Items[1] = ring
		rings := api.Datum{Kind: kind, Items: make([]api.Datum, 3)}
		rings.Items[0], rings.Items[1], rings.Items[2] = rings, rings, rings
		l = append(l, wrong{"a ring", ring}, wrong{"rings", rings}, wrong{"a ring of many Items", list(many(2000, ring)...)}, wrong{"a ring far within", nested(50, rings, wraps()...)})
	}
	return l
}
