package verify_test

import (
	"math"
	"math/rand/v2"
	"reflect"
	"slices"
	"testing"

	"distaff/api"
	"distaff/verify"
)

// P1, P2, and what holds for all layers.

// each goes through all lists that a value has, the innermost first.
func each(v reflect.Value, do func(list reflect.Value)) {
	switch v.Kind() {
	case reflect.Struct:
		for i := range v.NumField() {
			each(v.Field(i), do)
		}
	case reflect.Slice:
		for i := range v.Len() {
			each(v.Index(i), do)
		}
		do(v)
	}
}

// spare is something for the spare room behind lists.
func spare(t reflect.Type) reflect.Value {
	v := reflect.New(t).Elem()
	switch t.Kind() {
	case reflect.Uint32:
		v.SetUint(3735928559)
	case reflect.String:
		v.SetString("spare")
	case reflect.Struct:
		v.Field(0).Set(spare(t.Field(0).Type))
	case reflect.Int:
		v.SetInt(-77)
	}
	return v
}

// roomy is the same program in other memory, with spare room behind each list.
func roomy(c api.Code) api.Code {
	out := whole(c, false)
	each(reflect.ValueOf(&out).Elem(), func(list reflect.Value) {
		n := list.Len()
		longer := reflect.MakeSlice(list.Type(), n+2, n+2)
		reflect.Copy(longer, list)
		longer.Index(n).Set(spare(list.Type().Elem()))
		longer.Index(n + 1).Set(spare(list.Type().Elem()))
		list.Set(longer.Slice(0, n))
	})
	return out
}

// whole is a program in other memory, as it is, or with the spare room of its lists as part of them.
func whole(c api.Code, room bool) api.Code {
	var copied func(v reflect.Value) reflect.Value
	copied = func(v reflect.Value) reflect.Value {
		out := reflect.New(v.Type()).Elem()
		out.Set(v)
		switch v.Kind() {
		case reflect.Struct:
			for i := range v.NumField() {
				out.Field(i).Set(copied(v.Field(i)))
			}
		case reflect.Slice:
			if room {
				v = v.Slice(0, v.Cap())
			}
			out.Set(reflect.MakeSlice(v.Type(), v.Len(), v.Len()))
			for i := range v.Len() {
				out.Index(i).Set(copied(v.Index(i)))
			}
		}
		return out
	}
	return copied(reflect.ValueOf(c)).Interface().(api.Code)
}

// spoil writes over all memory of a program, spare room included.
func spoil(c *api.Code) {
	each(reflect.ValueOf(c).Elem(), func(list reflect.Value) {
		list = list.Slice(0, list.Cap())
		for i := range list.Len() {
			list.Index(i).Set(spare(list.Type().Elem()))
		}
	})
}

// answers is what both calls answer of a program, procedure by procedure and beside these.
func answers(c api.Code) (api.Flaw, [][]int) {
	var l [][]int
	for n := -1; n <= len(c.Procs); n++ {
		l = append(l, verify.Depths(c, n))
	}
	return verify.Check(c), l
}

// flat is such answers as numbers, in memory of their own.
func flat(flaw api.Flaw, depths [][]int) []int {
	l := []int{int(flaw.Err), flaw.Proc, flaw.At}
	for _, d := range depths {
		l = append(append(l, -7), d...)
	}
	return l
}

// asked is these of a program.
func asked(c api.Code) []int {
	return flat(answers(c))
}

// programs is programs with and without flaws.
func programs() []api.Code {
	l := append(flaws(), full(), api.Code{}, sample(), alone(1, "void; return"), alone(0, "jump 0"), holder(2, "void; free 1; tail 1; pop"))
	r := chance{rand.New(rand.NewPCG(11, 2))}
	for range 100 {
		c := r.code()
		l = append(l, c)
		c = whole(c, false)
		r.spoil(&c)
		l = append(l, c)
	}
	c := full()
	c.Consts = data(`(4294967296 2.5 . #(#\c (a b))) 18446744073709551616 "s" #() ask`)
	return append(l, c)
}

// wrongPrograms is programs that aren't RIGHT.
func wrongPrograms() []api.Code {
	var l []api.Code
	for _, do := range spoilers() {
		c := full()
		do(&c)
		l = append(l, c)
	}
	return l
}

func TestProgramsStay(t *testing.T) {
	for _, c := range append(programs(), wrongPrograms()...) {
		given := roomy(c)
		want := whole(given, true)
		answer := asked(given)
		if !reflect.DeepEqual(whole(given, true), want) {
			t.Errorf("%s is changed", told(c))
		}
		if !slices.Equal(answer, asked(c)) {
			t.Errorf("%s: spare room is seen", told(c))
		}
	}
}

func TestProgramsAreNotKept(t *testing.T) {
	for _, c := range append(programs(), wrongPrograms()...) {
		want := asked(c)
		given := roomy(c)
		flaw, depths := answers(given)
		spoil(&given)
		if !slices.Equal(flat(flaw, depths), want) || !slices.Equal(asked(c), want) {
			t.Errorf("%s is kept", told(c))
		}
	}
}

// P2: what is done with an answer isn't seen in what was handed in, nor in another answer.
func TestAnswersAreApart(t *testing.T) {
	for _, c := range programs() {
		given := roomy(c)
		want := whole(given, true)
		for n := range c.Procs {
			first, second := verify.Depths(given, n), verify.Depths(given, n)
			before := slices.Clone(second[:cap(second)])
			for i := range first[:cap(first)] {
				first[:cap(first)][i] = -9
			}
			if !slices.Equal(second[:cap(second)], before) || !slices.Equal(verify.Depths(given, n), before[:len(second)]) {
				t.Errorf("%s: two answers share memory", told(c))
			}
		}
		if !reflect.DeepEqual(whole(given, true), want) {
			t.Errorf("%s: an answer lies where it does", told(c))
		}
	}
}

func TestAnswersComeAgain(t *testing.T) {
	l := append(programs(), wrongPrograms()...)
	var first [][]int
	for _, c := range l {
		first = append(first, asked(c))
	}
	for i, c := range slices.Backward(l) {
		if !slices.Equal(asked(c), first[i]) || !slices.Equal(asked(whole(c, false)), first[i]) {
			t.Errorf("%s: another answer", told(c))
		}
	}
}

// Names mean nothing here, nor do the constants but for the labels.
func TestNamesAndConstantsMeanNothing(t *testing.T) {
	for _, c := range programs() {
		want := asked(c)
		c = whole(c, false)
		for n := range c.Procs {
			c.Procs[n].Name = "\xff"
		}
		for n := range c.Globals {
			c.Globals[n] = ""
		}
		for n := range c.Consts {
			if c.Consts[n].Kind == api.DSym {
				c.Consts[n].Text = "another"
			} else {
				c.Consts[n] = data("(1 . x)")[0]
			}
		}
		if !slices.Equal(asked(c), want) {
			t.Errorf("%s: %v, not %v", told(c), asked(c), want)
		}
	}
}

// oddData is data that aren't RIGHT, among them such as have no end.
func oddData() []api.Datum {
	ring := api.Datum{Kind: api.DList, Items: make([]api.Datum, 2)}
	ring.Items[0], ring.Items[1] = ring, ring
	wide, deep := api.Datum{}, api.Datum{}
	for range 70 {
		wide = api.Datum{Kind: api.DList, Items: []api.Datum{wide, wide, wide}}
	}
	for range 1 << 16 {
		deep = api.Datum{Kind: api.DList, Items: []api.Datum{deep}}
	}
	return []api.Datum{ring, wide, deep, {Kind: -7}, {Kind: 8}, {Kind: api.DSym, Text: "\xff"}, {Num: api.Num{Float: true, F: math.NaN(), I: api.Int{Neg: true, Limbs: []uint32{0}}}}}
}

// P1
func TestCallsOfAnyProgramsEnd(t *testing.T) {
	l := []api.Code{
		{Consts: make([]api.Datum, 1<<18)}, {Globals: make([]string, 1<<20)}, {Procs: make([]api.Proc, 1<<18)}, {Procs: []api.Proc{{Code: make([]api.Instr, 1<<22)}}}, {Procs: slices.Repeat([]api.Proc{{Code: make([]api.Instr, 40000)}}, 4001)},
	}
	for _, d := range oddData() {
		c := full()
		c.Consts[symbol] = d
		l = append(l, api.Code{Consts: []api.Datum{d}}, c)
	}
	for _, c := range l {
		flawed(t, c, api.ErrCode, 0, 0)
	}
}

func TestCallsOfAnyNumbersEnd(t *testing.T) {
	odd := []int{-1, -2, math.MinInt, math.MinInt + 1, math.MaxInt, math.MaxInt - 1, math.MaxInt/2 + 1, -1 << 24, 1 << 24, 1 << 32}
	for _, n := range odd {
		for i := range 7 {
			p := main(1, "void; return; void")
			*[]*int{&p.Params, &p.Slots, &p.Depth, &p.Free, &p.Code[0].Op, &p.Code[1].A, &p.Code[2].B}[i] = n
			flawed(t, sample(p), api.ErrCode, 0, 0)
			flawed(t, sample(main(0, "jump 0"), p), api.ErrCode, 0, 0)
		}
		for op := -1; op < 24; op++ {
			flawed(t, sample(api.Proc{Depth: 2, Code: []api.Instr{{Op: op, A: n, B: n}}}), api.ErrCode, 0, 0)
			flawed(t, sample(api.Proc{Depth: 2, Free: n, Code: []api.Instr{{Op: n, A: op, B: n}}}), api.ErrCode, 0, 0)
		}
	}
}

// Programs of numbers that are mostly right, and of such as aren't.
func TestProgramsOfAnyNumbers(t *testing.T) {
	r := rand.New(rand.NewPCG(11, 3))
	number := func() int {
		return []int{0, 0, 1, 2, 3, r.IntN(22), r.IntN(200), r.IntN(api.MaxNum), -r.IntN(2) * r.IntN(1<<30), math.MaxInt * (1 - r.IntN(2))}[r.IntN(8+2*r.IntN(2))]
	}
	for range 30000 {
		c := sample(make([]api.Proc, r.IntN(4))...)
		for n := range c.Procs {
			p := api.Proc{Slots: number(), Depth: number()}
			if n > 0 {
				p.Params, p.Rest, p.Free = number(), r.IntN(2) > 0, number()
			}
			for range r.IntN(6) {
				p.Code = append(p.Code, api.Instr{Op: []int{r.IntN(22), r.IntN(22), number()}[r.IntN(3)], A: number(), B: number()})
			}
			c.Procs[n] = p
		}
		agrees(t, c)
	}
}
