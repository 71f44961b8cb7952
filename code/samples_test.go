package code_test

import (
	"encoding/binary"
	"fmt"
	"math"
	"slices"
	"strings"

	"distaff/api"
	"distaff/datum"
	"distaff/reader"
)

// data is the data of a text that has no fault.
func data(text string) []api.Datum {
	l, fault := reader.Read([]byte(text))
	if fault.Err != api.OK {
		panic(short(text))
	}
	return l
}

// full is a program that has several of all there is, no two of them the same.
func full() api.Code {
	return api.Code{
		Procs: []api.Proc{
			{Name: "main", Slots: 2, Depth: 7, Code: []api.Instr{{Op: api.IConst, A: 1}, {Op: api.IPop}, {Op: api.IClosure, A: 1, B: 3}, {Op: api.ICall, A: 0}, {Op: api.IReturn}}},
			{Name: "f \xff\x00", Params: 4, Rest: true, Slots: 5, Depth: 6, Free: 8, Code: []api.Instr{{Op: api.IVoid, A: 65536, B: api.MaxNum}, {Op: api.IReturn, A: 9, B: 255}}},
			{},
			{Name: "far", Params: 300, Slots: 70000, Depth: api.MaxNum, Free: 1000, Code: []api.Instr{{Op: api.MaxNum, A: 1000000, B: 2}}},
		},
		Consts:  data(`a "b\n" (4294967296 2.5 . #(#\c)) 4294967297 ()`),
		Globals: []string{"car", "", "g\xff\x00", "a global name"},
	}
}

// programs is RIGHT programs of many kinds, no two of them the same.
func programs() []api.Code {
	return []api.Code{
		{}, full(),
		{Procs: []api.Proc{{}}}, {Procs: make([]api.Proc, 2)}, {Consts: data("a")}, {Globals: []string{""}}, {Globals: []string{"a"}}, {Globals: []string{"a", "b"}},
		{Procs: []api.Proc{{Depth: 1, Code: []api.Instr{{Op: api.IVoid}, {Op: api.IReturn}}}}},
		{Procs: []api.Proc{{Name: strings.Repeat("\xff", 100), Params: api.MaxNum, Rest: true, Slots: api.MaxNum, Depth: api.MaxNum, Free: api.MaxNum, Code: []api.Instr{{Op: api.MaxNum, A: api.MaxNum, B: api.MaxNum}}}}},
		{Consts: data(`0 1 -1 4294967296 -18446744073709551616 0.0 -0.0 0.5 -2.5 1.0e21 5.0e-324 +inf.0 -inf.0 +nan.0 #t #f`)},
		{Consts: data(`#\a #\( #\" #\; #\space #\newline #\tab #\nul #\x7f #\x3bb #\x10ffff "" "a b" "\"\\\n\t\r\x0;\x1f;\x7f;" "λ€😀" a ... - quote list->vector`)},
		{Consts: data(`() #() (a) #(a) ((a)) (#(a) . #(b)) (a . b) (a b . "c") (quote a) (quasiquote (a (unquote b) (unquote-splicing c))) (1 (2 (3 4294967296)))`)},
		{Consts: []api.Datum{longList(api.MaxText)}, Globals: []string{strings.Repeat("λ", 50), strings.Repeat("g", 100)}},
	}
}

// numbers is all numbers of a program.
func numbers(c *api.Code) []*int {
	var l []*int
	for i := range c.Procs {
		p := &c.Procs[i]
		l = append(l, &p.Params, &p.Slots, &p.Depth, &p.Free)
		for k := range p.Code {
			l = append(l, &p.Code[k].Op, &p.Code[k].A, &p.Code[k].B)
		}
	}
	return l
}

// longList is a list whose Print has that many bytes: some data, and texts behind them.
func longList(length int, ahead ...api.Datum) api.Datum {
	d := api.Datum{Kind: api.DList, Items: ahead}
	for {
		text, _ := datum.Print(d)
		left := length - len(text)
		if left == 0 {
			return d
		}
		d.Items = append(d.Items, api.Datum{Kind: api.DStr, Text: strings.Repeat("a", min(400, left-len(` ""`)))})
	}
}

// writing is bytes, and the places in them where it stands how many of something follow, or how long it is.
type writing struct {
	b      []byte
	counts []int
}

func (w *writing) num(l ...int) {
	for _, n := range l {
		w.b = append(w.b, binary.BigEndian.AppendUint32(nil, uint32(n))[1:]...)
	}
}

func (w *writing) count(n int) {
	w.counts = append(w.counts, len(w.b))
	w.num(n)
}

func (w *writing) text(s string) {
	w.count(len(s))
	w.b = append(w.b, s...)
}

func (w *writing) texts(l []string) {
	w.count(len(l))
	for _, s := range l {
		w.text(s)
	}
}

func (w *writing) proc(p api.Proc) {
	w.text(p.Name)
	w.num(p.Params)
	if p.Rest {
		w.num(1)
	} else {
		w.num(0)
	}
	w.num(p.Slots, p.Depth, p.Free)
	w.count(len(p.Code))
	for _, x := range p.Code {
		w.num(x.Op, x.A, x.B)
	}
}

// laidOut is what a program's bytes are, whether it is RIGHT or not: the texts of its constants are handed in.
func laidOut(c api.Code, texts []string) writing {
	var w writing
	w.texts(texts)
	w.texts(c.Globals)
	w.count(len(c.Procs))
	for _, p := range c.Procs {
		w.proc(p)
	}
	return w
}

// written is its bytes alone.
func written(c api.Code, texts []string) []byte {
	return laidOut(c, texts).b
}

// printed is the texts of a program's constants.
func printed(c api.Code) []string {
	var l []string
	for _, d := range c.Consts {
		text, _ := datum.Print(d)
		l = append(l, text)
	}
	return l
}

// equalData holds two data against each other field by field, floating numbers by their bits.
func equalData(a, b api.Datum) bool {
	if a.Kind != b.Kind || a.N != b.N || a.Text != b.Text || !slices.EqualFunc(a.Items, b.Items, equalData) {
		return false
	}
	return a.Num.Float == b.Num.Float && math.Float64bits(a.Num.F) == math.Float64bits(b.Num.F) && a.Num.I.Neg == b.Num.I.Neg && slices.Equal(a.Num.I.Limbs, b.Num.I.Limbs)
}

func equalProc(a, b api.Proc) bool {
	return slices.Equal(a.Code, b.Code) && a.Name == b.Name && a.Params == b.Params && a.Rest == b.Rest && a.Slots == b.Slots && a.Depth == b.Depth && a.Free == b.Free
}

// equal holds two programs against each other field by field.
func equal(a, b api.Code) bool {
	return slices.EqualFunc(a.Procs, b.Procs, equalProc) && slices.EqualFunc(a.Consts, b.Consts, equalData) && slices.Equal(a.Globals, b.Globals)
}

// isZero asks whether it is the zero Code.
func isZero(c api.Code) bool {
	return len(c.Procs) == 0 && len(c.Consts) == 0 && len(c.Globals) == 0
}

// told is what is told of a program.
func told(c api.Code) string {
	return short(fmt.Sprintf("%+v", c))
}

// short is a text that isn't too long to be told.
func short(s string) string {
	if len(s) > 300 {
		return s[:150] + " .. " + s[len(s)-150:]
	}
	return s
}
