package code_test

import (
	"math"
	"slices"
	"strings"
	"testing"

	"distaff/api"
	"distaff/code"
	"distaff/datum"
)

// P10.1, Same

// same complains, if Same doesn't answer this in both orders.
func same(t *testing.T, name string, a, b api.Code, want bool) {
	t.Helper()
	if code.Same(a, b) != want || code.Same(b, a) != want {
		t.Errorf("%s: %v, %v, not %v", name, code.Same(a, b), code.Same(b, a), want)
	}
}

// withNumber is the full program with another one for one of its numbers.
func withNumber(i, n int) api.Code {
	c := full()
	*numbers(&c)[i] = n
	return c
}

// shorter is what a list can become that loses one of its items.
func shorter[T any](l []T) [][]T {
	var out [][]T
	for i := range l {
		out = append(out, slices.Delete(slices.Clone(l), i, i+1))
	}
	return out
}

// longer is what a list can become that gets one more item.
func longer[T any](l []T, x T) [][]T {
	var out [][]T
	for i := range len(l) + 1 {
		out = append(out, slices.Insert(slices.Clone(l), i, x))
	}
	return out
}

// turned is what a list can become in which two neighbours change their places.
func turned[T any](l []T) [][]T {
	var out [][]T
	for i := range len(l) - 1 {
		x := slices.Clone(l)
		x[i], x[i+1] = x[i+1], x[i]
		out = append(out, x)
	}
	return out
}

// relaid is what a list can become in one of these ways.
func relaid[T any](l []T, x T) [][]T {
	return slices.Concat(shorter(l), longer(l, x), turned(l))
}

// others is the full program with one place changed, each in turn; some in several ways.
func others() []api.Code {
	var l []api.Code
	change := func(f func(c *api.Code)) {
		c := full()
		f(&c)
		l = append(l, c)
	}
	c := full()
	for i, n := range numbers(&c) {
		for _, by := range []int{1, 1 << 8, 1 << 16, 1 << 24, 1 << 32, -1 << 40, math.MinInt} {
			l = append(l, withNumber(i, *n+by))
		}
	}
	for i := range c.Procs {
		change(func(c *api.Code) { c.Procs[i].Name += "x" })
		change(func(c *api.Code) { c.Procs[i].Name = "\xfe" + c.Procs[i].Name })
		change(func(c *api.Code) { c.Procs[i].Rest = !c.Procs[i].Rest })
		for _, instrs := range relaid(c.Procs[i].Code, api.Instr{Op: 5, A: 6, B: 7}) {
			change(func(c *api.Code) { c.Procs[i].Code = instrs })
		}
	}
	for i := range c.Globals {
		change(func(c *api.Code) { c.Globals[i] += "x" })
		change(func(c *api.Code) { c.Globals[i] = "\xfe" + c.Globals[i] })
	}
	for i := range c.Consts {
		change(func(c *api.Code) { c.Consts[i] = data("other")[0] })
	}
	for _, procs := range relaid(c.Procs, api.Proc{Name: "new"}) {
		change(func(c *api.Code) { c.Procs = procs })
	}
	for _, globals := range relaid(c.Globals, "new") {
		change(func(c *api.Code) { c.Globals = globals })
	}
	for _, consts := range relaid(c.Consts, data("new")[0]) {
		change(func(c *api.Code) { c.Consts = consts })
	}
	change(func(c *api.Code) { c.Procs = nil })
	change(func(c *api.Code) { c.Globals = nil })
	change(func(c *api.Code) { c.Consts = nil })
	return l
}

func TestSameOfProgramsThatDifferInOnePlace(t *testing.T) {
	l := others()
	for i := range l {
		same(t, "changed", full(), l[i], false)
		same(t, "changed", l[i], others()[i], true)
		for k := range i {
			same(t, "changed otherwise", l[i], l[k], false)
		}
	}
}

func TestSameOfPrograms(t *testing.T) {
	for i, a := range programs() {
		for k, b := range programs() {
			same(t, told(a), a, b, i == k)
		}
	}
}

// constants is RIGHT data, no two of them the same by layer 5.
func constants() []api.Datum {
	return data(`0 0.0 -0.0 1 1.0 -1 -1.0 2.0 +nan.0 +inf.0 -inf.0 4294967296 4294967297 4294967296.0 18446744073709551616 #t #f #\a #\A #\x1 "" "a" "A" "1" a A b quote () #() (a) #(a) (a a) (a . a) ((a)) (1) (1.0) (0.0) (-0.0) (+nan.0) #(1) #(1.0) (a . 1) (a . 1.0) (a (b 1)) (a (b 1.0)) "#t" "()"`)
}

// At each place of a program constants are the same, if they are by layer 5.
func TestSameOfConstants(t *testing.T) {
	for i, a := range constants() {
		for k, b := range constants() {
			if datum.Same(a, b) != (i == k) {
				t.Fatalf("layer 5: %+v, %+v", a, b)
			}
			for place := range full().Consts {
				x, y := full(), full()
				x.Consts[place], y.Consts[place] = a, b
				same(t, "a constant", x, y, i == k)
			}
		}
	}
}

// All that are not a number are one.
func TestSameOfWhatIsNotANumber(t *testing.T) {
	nans := []float64{math.NaN(), -math.NaN(), math.Float64frombits(0x7FF0000000000001), math.Float64frombits(0xFFFFFFFFFFFFFFFF)}
	for _, a := range nans {
		for _, b := range nans {
			x := api.Code{Consts: []api.Datum{{Kind: api.DNum, Num: api.Num{Float: true, F: a}}}}
			y := api.Code{Consts: []api.Datum{{Kind: api.DNum, Num: api.Num{Float: true, F: b}}}}
			same(t, "alone", x, y, true)
			x.Consts[0] = api.Datum{Kind: api.DVec, Items: x.Consts}
			same(t, "in a vector", x, y, false)
			y.Consts = []api.Datum{{Kind: api.DVec, Items: y.Consts}}
			x.Consts = []api.Datum{{Kind: api.DVec, Items: []api.Datum{{Kind: api.DNum, Num: api.Num{Float: true, F: a}}}}}
			same(t, "in vectors", x, y, true)
		}
	}
}

// A list may be nil or empty.
func TestSameOfListsWithoutItems(t *testing.T) {
	none := []api.Code{
		{}, {Procs: []api.Proc{}}, {Consts: []api.Datum{}}, {Globals: []string{}}, {Procs: make([]api.Proc, 0, 3), Consts: make([]api.Datum, 0, 3), Globals: make([]string, 0, 3)},
	}
	for _, a := range none {
		for _, b := range none {
			same(t, "nothing", a, b, true)
		}
		same(t, "something", a, api.Code{Globals: []string{""}}, false)
	}
	same(t, "instructions", api.Code{Procs: []api.Proc{{}}}, api.Code{Procs: []api.Proc{{Code: []api.Instr{}}}}, true)
	same(t, "items", api.Code{Consts: []api.Datum{{Kind: api.DList}}}, api.Code{Consts: []api.Datum{{Kind: api.DList, Items: []api.Datum{}}}}, true)
	same(t, "limbs", api.Code{Consts: []api.Datum{{}}}, api.Code{Consts: []api.Datum{{Num: api.Num{I: api.Int{Limbs: []uint32{}}}}}}, true)
}

// What lies behind a list's end doesn't matter.
func TestSameOfSpareRoom(t *testing.T) {
	a, b := full(), full()
	b.Globals = append(b.Globals, "spare")[:len(a.Globals)]
	b.Consts = append(b.Consts, data("spare")...)[:len(a.Consts)]
	b.Procs = append(b.Procs, api.Proc{Name: "spare"})[:len(a.Procs)]
	b.Procs[0].Code = append(b.Procs[0].Code, api.Instr{Op: 3})[:len(a.Procs[0].Code)]
	same(t, "spare room", a, b, true)
}

// Programs that aren't RIGHT are the same, too, or aren't.
func TestSameOfProgramsThatAreNotRight(t *testing.T) {
	name := strings.Repeat("a", 200)
	same(t, "a long name", api.Code{Procs: []api.Proc{{Name: name + "b"}}}, api.Code{Procs: []api.Proc{{Name: name + "b"}}}, true)
	same(t, "a long name", api.Code{Procs: []api.Proc{{Name: name + "b"}}}, api.Code{Procs: []api.Proc{{Name: name + "c"}}}, false)
	same(t, "a long global", api.Code{Globals: []string{name + "b"}}, api.Code{Globals: []string{name + "c"}}, false)
	many := slices.Repeat([]string{"a"}, 5000)
	same(t, "many globals", api.Code{Globals: many}, api.Code{Globals: slices.Clone(many)}, true)
	same(t, "many globals", api.Code{Globals: many}, api.Code{Globals: append(slices.Clone(many), "a")}, false)
	procs := make([]api.Proc, 5000)
	same(t, "many procedures", api.Code{Procs: procs}, api.Code{Procs: slices.Clone(procs)}, true)
	same(t, "many procedures", api.Code{Procs: procs}, api.Code{Procs: procs[:4999]}, false)
	instrs := make([]api.Instr, 50000)
	same(t, "many instructions", api.Code{Procs: []api.Proc{{Code: instrs}}}, api.Code{Procs: []api.Proc{{Code: slices.Clone(instrs)}}}, true)
	same(t, "many instructions", api.Code{Procs: []api.Proc{{Code: instrs}}}, api.Code{Procs: []api.Proc{{Code: instrs[1:]}}}, false)
}
