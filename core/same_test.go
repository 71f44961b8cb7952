package core_test

import (
	"math"
	"slices"
	"strings"
	"testing"

	"distaff/api"
	"distaff/core"
)

// P8.6

func konst(d api.Datum) api.Core {
	return api.Core{Kind: api.CConst, Datum: d}
}

func term(kind int, parts ...api.Core) api.Core {
	return api.Core{Kind: kind, Parts: parts}
}

// unlike is terms of which no two are the same: many differ in one field alone.
func unlike() []api.Core {
	a, b := api.Core{Kind: api.CVar, Name: "a"}, api.Core{Kind: api.CVar, Name: "b"}
	number := func(limbs ...uint32) api.Datum { return api.Datum{Num: api.Num{I: api.Int{Limbs: limbs}}} }
	floating := func(f float64) api.Datum { return api.Datum{Num: api.Num{Float: true, F: f}} }
	l := []api.Core{a, b, term(api.CVoid), term(api.CCall, a), term(api.CCall, b), term(api.CCall, a, b), term(api.CCall, b, a), term(api.CCall, a, a), term(api.CCall, a, b, b), term(api.CSeq, a, b), term(api.CCall, term(api.CCall, a)), term(api.CIf, a, b, a), term(api.CIf, a, a, b), term(api.CIf, b, a, a)}
	for _, d := range []api.Datum{number(), number(1), number(0, 1), {Num: api.Num{I: api.Int{Neg: true, Limbs: []uint32{1}}}}, floating(0), floating(math.Copysign(0, -1)), floating(1), floating(math.NaN()), floating(math.Inf(1)), {Kind: api.DBool}, {Kind: api.DBool, N: 1}, {Kind: api.DChar, N: 1}, {Kind: api.DStr}, {Kind: api.DStr, Text: "a"}, {Kind: api.DSym, Text: "a"}, list(), list(sym("a")), list(sym("b")), list(sym("a"), sym("b")), dot(sym("a"), sym("b")), vec(), vec(sym("a")), list(list()), list(vec())} {
		l = append(l, konst(d))
	}
	for kind := range api.CVoid + 1 {
		l = append(l, api.Core{Kind: kind, Name: "only", Parts: []api.Core{a}})
	}
	whole := api.Core{Kind: api.CHandle, Name: "n", Datum: sym("d"), Names: []string{"x", "y"}, Parts: []api.Core{a, b}, Clauses: []api.Clause{{Label: "l", Arg: "x", K: "k", Body: a}, {Label: "m", Arg: "x", K: "k", Body: b}}}
	l = append(l, whole)
	change := func(f func(c *api.Core)) {
		c := whole
		c.Names, c.Parts, c.Clauses = slices.Clone(c.Names), slices.Clone(c.Parts), slices.Clone(c.Clauses)
		f(&c)
		l = append(l, c)
	}
	change(func(c *api.Core) { c.Kind = api.CLet })
	change(func(c *api.Core) { c.Kind = -1 })
	change(func(c *api.Core) { c.Name = "" })
	change(func(c *api.Core) { c.Name = "N" })
	change(func(c *api.Core) { c.Datum = sym("e") })
	change(func(c *api.Core) { c.Datum = api.Datum{} })
	change(func(c *api.Core) { c.Names = nil })
	change(func(c *api.Core) { c.Names = c.Names[:1] })
	change(func(c *api.Core) { c.Names[0] = "z" })
	change(func(c *api.Core) { c.Names[1] = "z" })
	change(func(c *api.Core) { c.Names[0], c.Names[1] = "y", "x" })
	change(func(c *api.Core) { c.Names = append(c.Names, "z") })
	change(func(c *api.Core) { c.Rest = true })
	change(func(c *api.Core) { c.Deep = true })
	change(func(c *api.Core) { c.Rest, c.Deep = true, true })
	change(func(c *api.Core) { c.Parts = nil })
	change(func(c *api.Core) { c.Parts = c.Parts[:1] })
	change(func(c *api.Core) { c.Parts = append(c.Parts, a) })
	change(func(c *api.Core) { c.Parts[0] = b })
	change(func(c *api.Core) { c.Parts[1] = a })
	change(func(c *api.Core) { c.Parts[1].Deep = true })
	change(func(c *api.Core) { c.Clauses = nil })
	change(func(c *api.Core) { c.Clauses = c.Clauses[:1] })
	change(func(c *api.Core) { c.Clauses = append(c.Clauses, c.Clauses[0]) })
	change(func(c *api.Core) { c.Clauses[0], c.Clauses[1] = c.Clauses[1], c.Clauses[0] })
	for i := range 2 {
		change(func(c *api.Core) { c.Clauses[i].Label = "n" })
		change(func(c *api.Core) { c.Clauses[i].Arg = "z" })
		change(func(c *api.Core) { c.Clauses[i].K = "z" })
		change(func(c *api.Core) { c.Clauses[i].Arg, c.Clauses[i].K = "k", "x" })
		change(func(c *api.Core) { c.Clauses[i].Body = term(api.CVoid) })
		change(func(c *api.Core) { c.Clauses[i].Body.Rest = true })
	}
	return l
}

// around is ways of laying a term within another.
func around() []func(c api.Core) api.Core {
	a := api.Core{Kind: api.CVar, Name: "a"}
	return []func(c api.Core) api.Core{
		func(c api.Core) api.Core { return c },
		func(c api.Core) api.Core { return term(api.CCall, c) },
		func(c api.Core) api.Core { return term(api.CSeq, a, c, a) },
		func(c api.Core) api.Core {
			return api.Core{Kind: api.CHandle, Names: []string{"x"}, Parts: []api.Core{a, a}, Clauses: []api.Clause{{Label: "l", Arg: "x", K: "k", Body: c}}}
		},
		func(c api.Core) api.Core {
			return term(api.CLambda, api.Core{Kind: api.CHandle, Clauses: []api.Clause{{Body: a}, {Body: term(api.CIf, a, a, c)}}})
		},
	}
}

func TestSame(t *testing.T) {
	l := unlike()
	for i, a := range l {
		for k, b := range l {
			for n, within := range around() {
				if core.Same(within(a), within(copied(b))) != (i == k) {
					t.Fatalf("%d and %d, laid %d: %+v and %+v", i, k, n, a, b)
				}
			}
		}
		if core.Same(a, term(api.CCall, a)) || core.Same(term(api.CCall, a), a) {
			t.Errorf("%d: a part is the whole", i)
		}
	}
}

// Constants are held against each other by layer 5, and there is one list without elements.
func TestSameByValue(t *testing.T) {
	nan := func(bits uint64) api.Core {
		return konst(api.Datum{Num: api.Num{Float: true, F: math.Float64frombits(bits)}})
	}
	if !core.Same(nan(0x7FF8000000000001), nan(0xFFF8000000000002)) || !core.Same(konst(list()), konst(api.Datum{Kind: api.DList, Items: []api.Datum{}})) {
		t.Error("constants that are the same")
	}
	none := api.Core{Names: []string{}, Parts: []api.Core{}, Clauses: []api.Clause{}}
	if !core.Same(none, api.Core{}) || !core.Same(api.Core{}, none) {
		t.Error("lists without elements")
	}
	long := strings.Repeat("a", 1000)
	if !core.Same(api.Core{Kind: 99, Name: long}, api.Core{Kind: 99, Name: strings.Clone(long)}) || core.Same(api.Core{Kind: 99, Name: long}, api.Core{Kind: 99, Name: long + "a"}) {
		t.Error("terms of no kind")
	}
}

func TestSameOfPrograms(t *testing.T) {
	texts := programs()
	for i, text := range texts {
		for k, other := range texts {
			a, _ := core.Make(read(t, text))
			b, _ := core.Make(read(t, other))
			if slices.EqualFunc(a, b, core.Same) != slices.EqualFunc(a, b, equal) || i == k && !slices.EqualFunc(a, b, core.Same) {
				t.Errorf("%s and %s", text, other)
			}
		}
	}
}

func TestSize(t *testing.T) {
	for text, want := range map[string]int{
		"1": 1, "'(a b c)": 1, "#(1 2 3)": 1, "car": 1, "(car 1)": 3, "(car 1 2)": 4, "(if 1 2)": 4, "(if 1 2 3)": 4, "(lambda (x y z) x)": 2, "(begin (begin 1 2))": 1, "(car (begin 1 2))": 5, "(define x 1)": 2, "(set! x 1) (define x 2)": 2,
		"(let ((x 1) (y 2)) x)": 4, "(let () 1)": 2, "(letrec ((x 1)) (car x))": 5, "(or 1 2)": 6, "(and 1 2)": 4, "(perform l)": 2, "(perform l (car 1))": 4, "(handle 1)": 3, "(handle 1 (return (x) (car x)))": 5, "(handle 1 (l (x k) 2))": 4, "(handle 1 (l (x k) (car x)) (m (x k) (k)) (return (x) x))": 3 + 3 + 2, "(handle (car 1) (l (x k) (handle 1 (l (x k) (car x)))))": 1 + 3 + 1 + 6, "(cond)": 1, "(do () (1))": 9,
	} {
		l, fault := core.Make(read(t, text))
		if fault != (api.Fault{}) || core.Size(l[0]) != want {
			t.Errorf("%s: %d, %v, not %d", text, core.Size(l[0]), fault, want)
		}
	}
}

func TestSizeOfAnyTerms(t *testing.T) {
	for i, c := range unlike() {
		n := counted(c)
		for k, within := range around() {
			if got := core.Size(within(c)); got != n+[]int{0, 1, 3, 3, 6}[k] {
				t.Errorf("%d, laid %d: %d", i, k, got)
			}
		}
	}
	if core.Size(api.Core{}) != 1 || core.Size(api.Core{Kind: 99, Names: []string{"a"}, Datum: list(list())}) != 1 {
		t.Error("a term without parts")
	}
}

// counted is how many terms a term is made of.
func counted(c api.Core) int {
	n := 1
	for _, part := range c.Parts {
		n += counted(part)
	}
	for _, x := range c.Clauses {
		n += counted(x.Body)
	}
	return n
}

// Many terms, and terms deep within others.
func TestGreatTerms(t *testing.T) {
	void := term(api.CVoid)
	wide := term(api.CSeq, slices.Repeat([]api.Core{void}, 300000)...)
	clauses := api.Core{Kind: api.CHandle, Clauses: slices.Repeat([]api.Clause{{Body: term(api.CCall, void)}}, 100000)}
	shared := void
	for range 20 {
		shared = term(api.CCall, shared, shared)
	}
	deep, low := void, void
	for i := range 1<<16 - 2 {
		deep = term(api.CCall, deep)
		if i%2 == 0 {
			low = api.Core{Kind: api.CHandle, Clauses: []api.Clause{{Body: low}}}
		} else {
			low = term(api.CCall, low)
		}
	}
	for i, c := range []struct {
		c    api.Core
		size int
	}{{wide, 300001}, {clauses, 200001}, {shared, 1<<21 - 1}, {deep, 1<<16 - 1}, {low, 1<<16 - 1}, {term(api.CSeq, slices.Repeat([]api.Core{wide}, 20)...), 6000021}} {
		if got := core.Size(c.c); got != c.size {
			t.Errorf("%d: %d, not %d", i, got, c.size)
		}
		if !core.Same(c.c, c.c) || core.Same(c.c, void) || core.Same(void, c.c) || core.Same(c.c, term(api.CCall, c.c)) {
			t.Errorf("%d isn't itself alone", i)
		}
	}
	other := slices.Clone(wide.Parts)
	other[len(other)-1].Rest = true
	if core.Same(wide, term(api.CSeq, other...)) || core.Same(deep, low) {
		t.Error("the last part counts")
	}
}
