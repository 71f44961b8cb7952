package macro_test

import (
	"math"
	"math/rand/v2"
	"slices"
	"strings"
	"testing"

	"distaff/api"
	"distaff/datum"
	"distaff/macro"
)

// P1, P2, and what holds for all layers.

// programs is programs of many kinds, some of them with a fault.
func programs() []string {
	swap := "(define-syntax swap (syntax-rules () ((_ (a b) ...) (list (b a) ...))))"
	return []string{
		"", "a", "1 \"b\" #\\c #t 2.5", "(a . b) #(c (d))", swap, swap + "(swap (1 2) (3 4))", swap + "(swap (1 2)) (swap (\"a\" #(340282366920938463463374607431768211456)))", swap + "(x (swap (18446744073709551616 a)) . 4294967296)", swap + "(swap 1)", swap + "(a) (swap (1 2) (3))", swap + "(define-syntax swap)",
		ruled("(_ a)", "(a a 79228162514264337593543950336 #(4294967296 (a)) . a)") + "(m 18446744073709551616) (m (1 2)) (m #(4294967297 \"b\"))", ruled("(_ . a)", "'(a a \"b\" a . a)") + "(m (1 . 2) (3 4)) (m . #(1))", ruled("(_ (a ...) ...)", "'((a ... a ...) ... (b a ...) ...)") + "(m (1 (2 3)) ((4 . 5)))",
		ruled("(_ a)", "'a") + "(m 1) (m (2 3)) (m 1) (m (2 3)) '(m 1) (m (m 1))", ruled("(_ #(1 4294967296) 18446744073709551616 \"a\" lit)", "x") + "(m #(1 4294967296) 18446744073709551616 \"a\" lit) (m #(1 4294967296) 18446744073709551616 \"a\" a)",
		ruled("(_ a . b)", "(m a a . b)") + "(m 1)", ruled("(_ a ...)", "(x a ... a ...)") + strings.Repeat("(m 1 (2) #(3))", 100), "(quote (a . b)) (quote #(4294967296)) ''a", "(define-syntax . 4294967296) (define-syntax m . #(a))", "(define-syntax m (syntax-rules (4294967296 \"a\") ((_) 1)))",
	}
}

// roomy is the same data in other memory, with spare room behind each list.
func roomy(l []api.Datum) []api.Datum {
	l = append(slices.Clone(l), api.Datum{Kind: 9, N: 3735928559}, api.Datum{Text: "spare"})[:len(l)]
	for i := range l {
		limbs := l[i].Num.I.Limbs
		l[i].Num.I.Limbs = slices.Concat(limbs, []uint32{3735928559, 0, math.MaxUint32})[:len(limbs)]
		l[i].Items = roomy(l[i].Items)
	}
	return l
}

// whole is data with the spare room of their lists as part of them, in other memory.
func whole(l []api.Datum) []api.Datum {
	l = slices.Clone(l[:cap(l)])
	for i := range l {
		l[i].Num.I.Limbs = slices.Clone(l[i].Num.I.Limbs[:cap(l[i].Num.I.Limbs)])
		l[i].Items = whole(l[i].Items)
	}
	return l
}

// spoil writes over all memory of data, spare room included.
func spoil(l []api.Datum) {
	l = l[:cap(l)]
	for i := range l {
		limbs := l[i].Num.I.Limbs[:cap(l[i].Num.I.Limbs)]
		for k := range limbs {
			limbs[k] = ^limbs[k]
		}
		spoil(l[i].Items)
		l[i] = api.Datum{Kind: 9, N: -1, Text: "spoilt"}
	}
}

func TestArgumentsStay(t *testing.T) {
	for _, text := range programs() {
		l := roomy(read(t, text))
		want := whole(l)
		if macro.Expand(l); !slices.EqualFunc(whole(l), want, equal) {
			t.Errorf("%q is changed", short(text))
		}
	}
}

func TestArgumentsAreNotKept(t *testing.T) {
	for _, text := range programs() {
		l := roomy(read(t, text))
		got, fault := macro.Expand(l)
		want := whole(got)
		if spoil(l); !slices.EqualFunc(whole(got), want, equal) {
			t.Errorf("%q is kept", short(text))
		}
		if again, other := macro.Expand(read(t, text)); other != fault || !slices.EqualFunc(whole(again), want, equal) {
			t.Errorf("%q: another answer later", short(text))
		}
	}
}

// P2: what is done with an answer isn't seen in what was handed in, nor in another answer.
func TestAnswersAreApart(t *testing.T) {
	for _, text := range programs() {
		l := roomy(read(t, text))
		given := whole(l)
		got, fault := macro.Expand(l)
		second, _ := macro.Expand(l)
		want := whole(second)
		if spoil(got); !slices.EqualFunc(whole(l), given, equal) {
			t.Errorf("%q: an answer shares memory with what was handed in", short(text))
		}
		if !slices.EqualFunc(whole(second), want, equal) {
			t.Errorf("%q: two answers share memory", short(text))
		}
		if third, other := macro.Expand(l); other != fault || !slices.EqualFunc(whole(third), want, equal) {
			t.Errorf("%q: another answer later", short(text))
		}
	}
}

// gather is all lists of data, each with its spare room.
func gather(l []api.Datum, items [][]api.Datum, limbs [][]uint32) ([][]api.Datum, [][]uint32) {
	items = append(items, l[:cap(l)])
	for _, d := range l {
		limbs = append(limbs, d.Num.I.Limbs[:cap(d.Num.I.Limbs)])
		items, limbs = gather(d.Items, items, limbs)
	}
	return items, limbs
}

func TestListsOfAnAnswerAreApart(t *testing.T) {
	for _, text := range programs() {
		l, _ := macro.Expand(read(t, text))
		items, limbs := gather(l, nil, nil)
		for i := range items {
			for k := range items[i] {
				items[i][k] = api.Datum{N: i}
			}
		}
		for i := range limbs {
			for k := range limbs[i] {
				limbs[i][k] = uint32(i)
			}
		}
		for i := range items {
			if slices.ContainsFunc(items[i], func(d api.Datum) bool { return d.N != i }) {
				t.Errorf("%q: two lists share memory", short(text))
			}
		}
		for i := range limbs {
			if slices.ContainsFunc(limbs[i], func(limb uint32) bool { return limb != uint32(i) }) {
				t.Errorf("%q: two numbers share memory", short(text))
			}
		}
	}
}

// In whichever order a map is gone through, the answer is the same one.
func TestAnswersComeAgain(t *testing.T) {
	var names, values []string
	for i := range 40 {
		names, values = append(names, "v"+string(rune('a'+i%20))+string(rune('a'+i/20))), append(values, strings.Repeat("1 ", i%7))
	}
	text := ruled("(_ ("+strings.Join(names, " ")+") ...)", "(x (("+strings.Join(names, " ")+") ...) "+strings.Join(names, " ... ")+" ...)") + "(m " + strings.Repeat("("+strings.Repeat("1 (2) ", 20)+")", 5) + ")" +
		ruled("(_ ("+strings.Join(names, " ...) (")+" ...))", "(x ("+strings.Join(names, " ")+") ...)") + "(a (m (" + strings.Join(values, ") (") + ")))"
	l := read(t, text)
	for _, program := range [][]api.Datum{l[:2], l} {
		want, fault := macro.Expand(program)
		for range 50 {
			if got, other := macro.Expand(program); other != fault || !slices.EqualFunc(got, want, equal) {
				t.Fatal("another answer")
			}
		}
	}
	hasFault(t, l, api.ErrMatch, 3)
}

// isSound complains, if a call doesn't answer as all calls do: data, or a fault at a FORM.
func isSound(t *testing.T, l []api.Datum) {
	t.Helper()
	got, fault := macro.Expand(l)
	switch {
	case fault == api.Fault{}:
	case len(got) != 0 || fault.At < 0 || fault.At >= len(l) || fault.Err < api.ErrMacro || fault.Err > api.ErrSteps:
		t.Errorf("%d data, %v", len(got), fault)
	}
}

// odd is data that aren't RIGHT, some of which hardly end, or don't.
func odd() []api.Datum {
	a := sym("a")
	l := []api.Datum{dot(), dot(a), dot(a, list(a)), dot(a, list()), dot(a, dot(a, a)), dot(list(a)), sym(""), sym("."), sym("a b"), sym("\xff"), {Kind: api.DStr, Text: "\xff"}, {Kind: api.DChar, N: -1}, {Kind: api.DBool, N: 7}, vec(many(201, a)...), list(many(3000, a)...), list(many(1<<17, a)...), nested(61, a), nested(1<<16-1, a), shelled(1<<16-1, a)}
	for _, kind := range []int{math.MinInt, -1, 8, math.MaxInt} {
		l = append(l, api.Datum{Kind: kind}, api.Datum{Kind: kind, Text: "m", Items: []api.Datum{sym("m")}}, list(api.Datum{Kind: kind, Items: []api.Datum{a}}))
	}
	for _, kind := range []int{api.DNum, api.DSym, api.DList, api.DDot, api.DVec, 8} {
		ring := api.Datum{Kind: kind, Text: "m", Items: []api.Datum{sym("m"), a, a}}
		ring.Items[1] = ring
		rings := api.Datum{Kind: kind, Text: "m", Items: make([]api.Datum, 3)}
		rings.Items[0], rings.Items[1], rings.Items[2] = rings, rings, rings
		wide := a
		for range 60 {
			wide = api.Datum{Kind: kind, Items: []api.Datum{wide, wide}}
		}
		l = append(l, ring, rings, wide, api.Datum{Kind: kind, Text: "define-syntax", Items: []api.Datum{a}})
	}
	return append(l, api.Datum{Num: api.Num{I: api.Int{Neg: true, Limbs: []uint32{0, 0}}}}, api.Datum{Num: api.Num{Float: true, F: math.NaN(), I: api.Int{Limbs: []uint32{1}}}}, api.Datum{Kind: api.DSym, Text: "m", N: 1}, api.Datum{Kind: api.DList, Text: "m", Items: []api.Datum{sym("m")}})
}

// P1
func TestCallsOfAnyDataEnd(t *testing.T) {
	swap := read(t, ruled("(_ a ... b)", "(b (a) ... . b)")+ruled("(_ . a)", "(x a a . a)"))
	for _, d := range odd() {
		rules := func(literals api.Datum, l ...api.Datum) api.Datum {
			return list(append([]api.Datum{sym("syntax-rules"), literals}, l...)...)
		}
		rule := list(list(sym("_"), sym("a")), sym("a"))
		for _, form := range []api.Datum{
			d, list(d), vec(d), dot(sym("a"), d), dot(d, sym("a")), list(sym("quote"), d), list(sym("m"), d), list(sym("m"), d, d), dot(sym("m"), d), list(sym("x"), list(sym("m"), d)), list(d, list(sym("m"), d)),
			list(sym("define-syntax"), d), list(sym("define-syntax"), d, rules(list(), rule)), list(sym("define-syntax"), sym("m"), d), list(sym("define-syntax"), sym("m"), rules(d, rule)), list(sym("define-syntax"), sym("m"), rules(list(d), rule)), list(sym("define-syntax"), sym("m"), rules(list(), d)), list(sym("define-syntax"), sym("m"), rules(list(), rule, d)),
			list(sym("define-syntax"), sym("m"), rules(list(), list(d, sym("a")))), list(sym("define-syntax"), sym("m"), rules(list(), list(list(sym("_"), d), sym("a")))), list(sym("define-syntax"), sym("m"), rules(list(), list(dot(sym("_"), d), sym("a")))), list(sym("define-syntax"), sym("m"), rules(list(), list(list(sym("_")), d))), list(sym("define-syntax"), sym("m"), rules(list(), list(list(sym("_"), sym("a"), sym("...")), list(d, sym("..."))))),
			dot(sym("define-syntax"), sym("m"), d), dot(sym("define-syntax"), d), list(sym("define-syntax"), sym("m"), dot(sym("syntax-rules"), list(), d)), dot(sym("define-syntax"), sym("m"), rules(list(), rule)),
		} {
			isSound(t, []api.Datum{form})
			isSound(t, append(slices.Clone(swap[:1]), form, list(sym("m"), d)))
			isSound(t, append(slices.Clone(swap), form, list(sym("m"), d), dot(sym("m"), sym("a"))))
		}
	}
}

// Programs that can be read, of which a few parts are others.
func TestCallsOfChangedProgramsEnd(t *testing.T) {
	random := rand.New(rand.NewPCG(7, 2))
	odds := odd()
	for range 20 {
		for _, text := range programs() {
			l := read(t, text)
			items, _ := gather(l, nil, nil)
			for range 1 + random.IntN(3) {
				if part := items[random.IntN(len(items))]; len(part) > 0 {
					part[random.IntN(len(part))] = odds[random.IntN(len(odds))]
				}
			}
			isSound(t, l)
		}
	}
	isSound(t, nil)
	isSound(t, many(1<<20, list()))
	isSound(t, append(many(1<<17, one(t, defined("m", "((_) 1)"))), sym("a")))
}

// What comes out can be.
func TestWhatComesOutCanBe(t *testing.T) {
	c := chance{Rand: rand.New(rand.NewPCG(7, 3))}
	texts := programs()
	for range 3000 {
		texts = append(texts, c.program())
	}
	for _, text := range texts {
		if l, ok := data(text); ok {
			isSound(t, l)
			got, _ := macro.Expand(l)
			for _, d := range got {
				if !datum.Right(d) {
					t.Fatalf("%q: %s", short(text), told(got))
				}
			}
		}
	}
}
