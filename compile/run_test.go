package compile_test

import (
	"fmt"
	"math/rand/v2"
	"slices"
	"strings"
	"testing"

	"distaff/api"
	"distaff/datum"
)

// What the instructions are for: what a small machine makes of them is what the terms mean, whatever program it is. (Without effects.)

// value is a text, or one of these.
type value any

type (
	cell struct{ value } // nil: it has none yet

	// function is a procedure of terms, or of instructions.
	function struct {
		term  *api.Core
		scope *scope
		proc  *api.Proc
		free  []value
	}

	scope struct {
		names []string
		cells []*cell
		outer *scope
	}
)

// stopped is by what a program fails; panics have it.
type stopped string

const tooLong stopped = "too long"

// outcome is what a run comes to: what was shown, and the last value, or what it failed by.
func outcome(run func(w *world) value) (text string) {
	w := &world{}
	defer func() {
		if s, ok := recover().(stopped); ok {
			text = strings.Join(append(w.shown, "! "+string(s)), " ")
		}
	}()
	v := run(w)
	return strings.Join(append(w.shown, "= "+show(v)), " ")
}

// world is what is seen from outside, and how long a program ran.
type world struct {
	shown []string
	steps int
}

func (w *world) step() {
	if w.steps++; w.steps > 5000 {
		panic(tooLong)
	}
}

func show(v value) string {
	switch x := v.(type) {
	case string:
		return x
	case *function:
		return "#<function>"
	}
	return fmt.Sprintf("#<%T>", v)
}

// primitive does the few primitives that these programs call.
func (w *world) primitive(name string, args []value) value {
	switch {
	case name == "list":
		var l []string
		for _, v := range args {
			l = append(l, show(v))
		}
		return short("(" + strings.Join(l, " ") + ")")
	case name == "display" && len(args) == 1:
		w.shown = append(w.shown, show(args[0]))
		return "#<void>"
	case name == "void" && len(args) == 0:
		return "#<void>"
	}
	panic(stopped("wrong " + name))
}

// primitiveOf is the primitive that a value is.
func primitiveOf(v value) (string, bool) {
	s, _ := v.(string)
	return strings.CutPrefix(s, "#<primitive ")
}

func constantOf(d api.Datum) string {
	text, _ := datum.Print(d)
	return text
}

func listOf(l []value) value {
	return (&world{}).primitive("list", l)
}

// arguments is what a procedure's names begin with.
func arguments(params int, rest bool, args []value) []value {
	if len(args) < params || len(args) > params && !rest {
		panic(stopped("wrong-count"))
	}
	l := append([]value{}, args[:params]...)
	if rest {
		l = append(l, listOf(args[params:]))
	}
	return l
}

// get is what a cell holds.
func (c *cell) get() value {
	if c.value == nil {
		panic(stopped("uninitialized"))
	}
	return c.value
}

// meaning gives terms their meaning, one by one.
type meaning struct {
	*world
	globals map[string]*cell
}

func (s *scope) find(name string) *cell {
	for ; s != nil; s = s.outer {
		for i, x := range s.names {
			if x == name {
				return s.cells[i]
			}
		}
	}
	return nil
}

func bind(names []string, values []value, outer *scope) *scope {
	s := &scope{names: names, outer: outer}
	for i := range names {
		s.cells = append(s.cells, &cell{values[i]})
	}
	return s
}

func (m meaning) cell(name string, s *scope) *cell {
	if c := s.find(name); c != nil {
		return c
	}
	return m.globals[name]
}

func (m meaning) all(l []api.Core, s *scope) []value {
	var out []value
	for i := range l {
		out = append(out, m.of(&l[i], s))
	}
	return out
}

// of is the value of a term.
func (m meaning) of(c *api.Core, s *scope) value {
	m.step()
	last := len(c.Parts) - 1
	switch c.Kind {
	case api.CConst:
		return constantOf(c.Datum)
	case api.CVar:
		if found := m.cell(c.Name, s); found != nil {
			return found.get()
		}
		return "#<primitive " + c.Name
	case api.CSet, api.CDefine:
		v := m.of(&c.Parts[0], s)
		m.cell(c.Name, s).value = v
	case api.CIf:
		if m.of(&c.Parts[0], s) != "#f" {
			return m.of(&c.Parts[1], s)
		}
		return m.of(&c.Parts[2], s)
	case api.CLambda:
		return &function{term: c, scope: s}
	case api.CSeq:
		return m.all(c.Parts, s)[last]
	case api.CCall:
		l := m.all(c.Parts, s)
		return m.call(l[0], l[1:])
	case api.CLet:
		return m.of(&c.Parts[last], bind(c.Names, m.all(c.Parts[:last], s), s))
	case api.CLetrec:
		inner := bind(c.Names, make([]value, last), s)
		for i := range last {
			inner.cells[i].value = m.of(&c.Parts[i], inner)
		}
		return m.of(&c.Parts[last], inner)
	}
	return "#<void>"
}

func (m meaning) call(f value, args []value) value {
	if name, is := primitiveOf(f); is {
		return m.primitive(name, args)
	}
	x, is := f.(*function)
	if !is {
		panic(stopped("not-procedure"))
	}
	c := x.term
	params := len(c.Names)
	if c.Rest {
		params--
	}
	return m.of(&c.Parts[0], bind(c.Names, arguments(params, c.Rest, args), x.scope))
}

// machine does instructions.
type machine struct {
	*world
	code    api.Code
	globals []cell
}

// run is the value that a procedure comes to. What slots and words hold that nobody put there is nil.
func (m machine) run(f *function, args []value) value {
again:
	p := f.proc
	slots, words := make([]value, p.Slots), []value(nil)
	copy(slots, arguments(p.Params, p.Rest, args))
	take := func(n int) []value {
		taken := append([]value{}, words[len(words)-n:]...)
		words = words[:len(words)-n]
		return taken
	}
	put := func(v value) { words = append(words, v) }
	for at := 0; ; at++ {
		m.step()
		switch x := p.Code[at]; strings.TrimSuffix(called()[x.Op], "-A") {
		case "const":
			put(constantOf(m.code.Consts[x.A]))
		case "local":
			put(slots[x.A])
		case "setlocal":
			slots[x.A] = take(1)[0]
		case "free":
			put(f.free[x.A])
		case "global":
			put(m.globals[x.A].get())
		case "setglobal", "defglobal":
			m.globals[x.A].value = take(1)[0]
		case "box":
			put(&cell{take(1)[0]})
		case "unbox":
			put(take(1)[0].(*cell).get())
		case "setbox":
			l := take(2)
			l[0].(*cell).value = l[1]
		case "closure":
			inner := &m.code.Procs[x.A]
			put(&function{proc: inner, free: take(inner.Free)})
		case "jump":
			at = x.A - 1
		case "branch":
			if take(1)[0] == "#f" {
				at = x.A - 1
			}
		case "call":
			l := take(x.A + 1)
			put(m.call(l[0], l[1:]))
		case "tail":
			l := take(x.A + 1)
			if next, is := l[0].(*function); is {
				f, args = next, l[1:]
				goto again
			}
			return m.call(l[0], l[1:])
		case "return":
			return take(1)[0]
		case "pop":
			take(1)
		case "void":
			put("#<void>")
		case "prim":
			put("#<primitive " + prims()[x.A])
		case "fresh":
			put(&cell{})
		}
	}
}

func (m machine) call(f value, args []value) value {
	if name, is := primitiveOf(f); is {
		return m.primitive(name, args)
	}
	x, is := f.(*function)
	if !is {
		panic(stopped("not-procedure"))
	}
	return m.run(x, args)
}

// runs is what both come to.
func runs(t *testing.T, l []api.Core) (string, string) {
	t.Helper()
	terms := outcome(func(w *world) value {
		m := meaning{w, map[string]*cell{}}
		var v value = "#<void>"
		for _, c := range l {
			if c.Kind == api.CDefine {
				m.globals[c.Name] = &cell{}
			}
		}
		for i := range l {
			v = m.of(&l[i], nil)
		}
		return v
	})
	c := compiled(t, l)
	instrs := outcome(func(w *world) value {
		m := machine{w, c, make([]cell, len(c.Globals))}
		return m.run(&function{proc: &c.Procs[0]}, nil)
	})
	return terms, instrs
}

func TestProgramsMeanWhatTheirTermsMean(t *testing.T) {
	for text, want := range map[string]string{
		"(list 1 2)": "= (1 2)",
		"(define (f x) (if x (list x) 'no)) (list (f 1) (f #f))":                                                   "= ((1) no)",
		"(let ((x 1)) (set! x (list x x)) (display x) (let ((y x)) (set! y 2) (list x y)))":                        "(1 1) = ((1 1) 2)",
		"((lambda (a . b) (let* ((c b) (a c)) (list a b c))) 1 2 3)":                                               "= ((2 3) (2 3) (2 3))",
		"(define n 1) (letrec ((f (lambda (x) (if x (begin (set! n x) (g #f)) n))) (g (lambda (x) (f x)))) (f 3))": "= 3",
		"(letrec ((x y) (y 1)) x)": "! uninitialized",
		"(let ((f (let ((x 1)) (lambda () (set! x (list x)) x)))) (f) (f))":           "= ((1))",
		"(list (let ((a 1) (b 2)) (list b a)) (let ((c 3)) (list c)))":                "= ((2 1) (3))",
		"(let loop ((x '(1))) (display x) (loop 1 2))":                                "(1) ! wrong-count",
		"(display 1) ((display 2) (display 3))":                                       "1 2 3 ! not-procedure",
		"(do ((x 1 (list x))) (#t (display x)))":                                      "1 = #<void>",
		"(let ((a 1)) (display (if (or #f a) (let ((b a)) (set! b 2) b) 3)) a)":       "2 = 1",
		"(define x y) (define y 1)":                                                   "! uninitialized",
		"(let ((x 1) (y 2)) (let ((z (let ((a x) (b y)) (list a b)))) (list x y z)))": "= (1 2 (1 2))",
	} {
		terms, instrs := runs(t, made(t, text))
		if terms != want || instrs != want {
			t.Errorf("%s: terms %s, instructions %s, not %s", text, terms, instrs, want)
		}
	}
}

// isLater puts definitions ahead of all else.
func isLater(c api.Core) int {
	if c.Kind == api.CDefine {
		return 0
	}
	return 1
}

func TestProgramsByChanceMeanWhatTheirTermsMean(t *testing.T) {
	r := chance{Rand: rand.New(rand.NewPCG(12, 5)), labels: strings.Fields("a b ask"), prims: strings.Fields("list list display display void")}
	met := map[string]int{}
	for i := range 12000 {
		l := r.program(1+r.IntN(3), 3+i%5)
		if i%3 > 0 {
			slices.SortStableFunc(l, func(a, b api.Core) int { return isLater(a) - isLater(b) })
		}
		terms, instrs := runs(t, l)
		if strings.HasSuffix(terms, string(tooLong)) || strings.HasSuffix(instrs, string(tooLong)) {
			met[string(tooLong)]++
			continue
		}
		if terms != instrs {
			t.Fatalf("%+v: %s, not %s: %s", l, instrs, terms, told(compiled(t, l)))
		}
		how := "value"
		if _, after, failed := strings.Cut(terms, "! "); failed {
			how = strings.Fields(after)[0]
		}
		met[how]++
	}
	for _, how := range []string{"value", "wrong-count", "not-procedure", "uninitialized", "wrong"} {
		if met[how] < 50 {
			t.Errorf("%s: %v", how, met)
		}
	}
	if met[string(tooLong)] > 1000 {
		t.Error(met)
	}
}
