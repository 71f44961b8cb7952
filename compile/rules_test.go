package compile_test

import (
	"math"
	"math/rand/v2"
	"reflect"
	"slices"
	"strings"
	"testing"
	"unsafe"

	"distaff/api"
	"distaff/compile"
	"distaff/verify"
)

// P1, P2, and what holds for all layers.

// programs is terms of many kinds, and some for which there is no program.
func programs(t *testing.T) [][]api.Core {
	var l [][]api.Core
	texts := []string{
		"", "1", "4294967296 18446744073709551616 2.5 \"a\" #\\a #t", "'(1 4294967296 (a . b) #(c)) #(1 (4294967297))", "car", "(car 4294967296 4294967296)", "(define x '(4294967296)) x (set! x x) (define y x)", "(define (f x . y) (set! x y) (f x))", "(lambda x x)", "(lambda (x . y) (define (z) x) (define w 4294967296) (z w))",
		"(let ((x '(4294967296)) (y 2)) x y)", "(let f ((x 1) (y '(4294967296))) (f x y))", "(let* ((x 1) (x '#(4294967296))) x)", "(letrec ((x 4294967296) (y x)) y)", "(let () 1)", "(and 1 2 3) (or 1 2 3)", "(cond (1) (2 => car) (3 4 5) (else 6 7))", "(case 4294967296 ((4294967296 a (b)) 1) ((4294967297) 2 3) (else 4 5))", "(do ((x 1 (car x)) (y 4294967296)) ((car x) 1 2) 3 4)",
		"(handle 1) (handle (car 1) (return (x) x 1) (l (x k) x) (m (y k) (define z y) z)) (handle-shallow 1 (l (x k) 4294967296))", "(perform l) (perform l '(4294967296))", "(lambda (x y z) (set! z 1) (set! y 2) (letrec ((v x) (w x)) (set! v '(4294967296 #(4294967296) \"a\"))))", "(if 1 2) (if 1 2 3)",
	}
	for _, text := range append(texts, strings.Join(texts, " ")) {
		l = append(l, made(t, text))
	}
	r := chance{Rand: rand.New(rand.NewPCG(12, 3)), labels: strings.Fields("a b ask"), prims: strings.Fields("car + void"), effects: true}
	for range 40 {
		l = append(l, r.program(3, 5))
	}
	return append(l, ones(20001, 0), made(t, "(lambda ("+many(180)+") 1)"), made(t, "(car "+strings.Repeat("1 ", 200)+")"))
}

// eachList goes through all lists that a value has, the innermost first.
func eachList(v reflect.Value, do func(list reflect.Value)) {
	switch v.Kind() {
	case reflect.Struct:
		for i := range v.NumField() {
			eachList(v.Field(i), do)
		}
	case reflect.Slice:
		for i := range v.Len() {
			eachList(v.Index(i), do)
		}
		do(v)
	}
}

// spare is something for the spare room behind lists.
func spare(t reflect.Type) reflect.Value {
	v := reflect.New(t).Elem()
	switch t.Kind() {
	case reflect.Uint32:
		v.SetUint(3735928559)
	case reflect.String:
		v.SetString("spare")
	case reflect.Struct:
		v.Field(0).Set(spare(t.Field(0).Type))
	case reflect.Int:
		v.SetInt(-77)
	}
	return v
}

// whole is a value in other memory, as it is, or with the spare room of its lists as part of them; a list without elements is none.
func whole[T any](x T, room bool) T {
	var copied func(v reflect.Value) reflect.Value
	copied = func(v reflect.Value) reflect.Value {
		out := reflect.New(v.Type()).Elem()
		out.Set(v)
		switch v.Kind() {
		case reflect.Struct:
			for i := range v.NumField() {
				out.Field(i).Set(copied(v.Field(i)))
			}
		case reflect.Slice:
			if room {
				v = v.Slice(0, v.Cap())
			}
			if out.SetZero(); v.Len() > 0 {
				out.Set(reflect.MakeSlice(v.Type(), v.Len(), v.Len()))
			}
			for i := range v.Len() {
				out.Index(i).Set(copied(v.Index(i)))
			}
		case reflect.String:
			out.SetString(strings.Clone(v.String()))
		}
		return out
	}
	return copied(reflect.ValueOf(x)).Interface().(T)
}

// roomy is the same terms in other memory, with spare room behind each list.
func roomy(l []api.Core) []api.Core {
	out := whole(l, false)
	eachList(reflect.ValueOf(&out).Elem(), func(list reflect.Value) {
		n := list.Len()
		longer := reflect.MakeSlice(list.Type(), n+2, n+2)
		reflect.Copy(longer, list)
		longer.Index(n).Set(spare(list.Type().Elem()))
		longer.Index(n + 1).Set(spare(list.Type().Elem()))
		list.Set(longer.Slice(0, n))
	})
	return out
}

// spoil writes over all lists of a value, spare room included.
func spoil[T any](x *T) {
	eachList(reflect.ValueOf(x).Elem(), func(list reflect.Value) {
		list = list.Slice(0, list.Cap())
		for i := range list.Len() {
			list.Index(i).Set(spare(list.Type().Elem()))
		}
	})
}

// answer is what Make answers.
type answer struct {
	Code  api.Code
	Error api.Errno
}

func asked(l []api.Core) answer {
	c, e := compile.Make(l)
	return answer{c, e}
}

func (a answer) equal(b answer) bool {
	return reflect.DeepEqual(whole(a, false), whole(b, false))
}

func TestTermsStay(t *testing.T) {
	for i, l := range programs(t) {
		given := roomy(l)
		want := whole(given, true)
		got := asked(given)
		if !reflect.DeepEqual(whole(given, true), want) {
			t.Errorf("%d is changed", i)
		}
		if !got.equal(asked(l)) {
			t.Errorf("%d: spare room is seen", i)
		}
	}
}

func TestTermsAreNotKept(t *testing.T) {
	for i, l := range programs(t) {
		given := roomy(l)
		got := asked(given)
		want := whole(got, true)
		if spoil(&given); !whole(got, true).equal(want) || !asked(l).equal(got) {
			t.Errorf("%d is kept", i)
		}
	}
}

// What is done with an answer isn't seen in what was handed in, nor in another answer.
func TestAnswersAreApart(t *testing.T) {
	for i, l := range programs(t) {
		given := roomy(l)
		before := whole(given, true)
		first, second := asked(given), asked(given)
		want := whole(second, true)
		if spoil(&first); !reflect.DeepEqual(whole(given, true), before) {
			t.Errorf("%d: an answer shares memory with what was handed in", i)
		}
		if !whole(second, true).equal(want) || !asked(given).equal(second) {
			t.Errorf("%d: two answers share memory", i)
		}
	}
}

// Each list of an answer is written over, spare room included: it isn't seen in another one.
func TestListsOfAnAnswerAreApart(t *testing.T) {
	for i, l := range programs(t) {
		a := asked(l)
		met := map[uintptr]int{}
		eachList(reflect.ValueOf(&a).Elem(), func(list reflect.Value) {
			room := list.Slice(0, list.Cap())
			for k := range room.Len() {
				if met[room.Index(k).Addr().Pointer()]++; met[room.Index(k).Addr().Pointer()] > 1 {
					t.Errorf("%d: two lists share memory", i)
				}
			}
		})
	}
}

// texts is where the bytes of all texts of a value begin, but for empty ones.
func texts(v reflect.Value) []*byte {
	var out []*byte
	switch v.Kind() {
	case reflect.Struct:
		for i := range v.NumField() {
			out = append(out, texts(v.Field(i))...)
		}
	case reflect.Slice:
		for i := range v.Len() {
			out = append(out, texts(v.Index(i))...)
		}
	case reflect.String:
		if v.Len() > 0 {
			out = append(out, unsafe.StringData(v.String()))
		}
	}
	return out
}

func TestTextsAreNewMemory(t *testing.T) {
	for i, l := range programs(t) {
		given := whole(l, false)
		handedIn := map[*byte]bool{}
		for _, at := range texts(reflect.ValueOf(given)) {
			handedIn[at] = true
		}
		if slices.ContainsFunc(texts(reflect.ValueOf(asked(given))), func(at *byte) bool { return handedIn[at] }) {
			t.Errorf("%d: a text of an answer lies where one lay that was handed in", i)
		}
	}
}

func TestAnswersComeAgain(t *testing.T) {
	l := programs(t)
	var first []answer
	for _, x := range l {
		first = append(first, asked(x))
	}
	for i, x := range slices.Backward(l) {
		for range 5 {
			if !asked(x).equal(first[i]) || !asked(whole(x, false)).equal(first[i]) {
				t.Errorf("%d: another answer", i)
			}
		}
	}
}

// A list that is empty is the same as none.
func TestNilAndEmptyLists(t *testing.T) {
	for i, l := range programs(t) {
		want := asked(l)
		for _, empty := range []bool{true, false} {
			x := whole(l, false)
			eachList(reflect.ValueOf(&x).Elem(), func(list reflect.Value) {
				switch {
				case list.Len() == 0 && empty:
					list.Set(reflect.MakeSlice(list.Type(), 0, 3))
				case list.Len() == 0:
					list.SetZero()
				}
			})
			if !asked(x).equal(want) {
				t.Errorf("%d: another answer", i)
			}
		}
	}
}

// oddTerms is terms that no call makes.
func oddTerms() []api.Core {
	a := api.Core{Kind: api.CVar, Name: "car"}
	ring := api.Datum{Kind: api.DList, Items: make([]api.Datum, 2)}
	ring.Items[0], ring.Items[1] = ring, ring
	l := []api.Core{
		{}, {Kind: -1}, {Kind: math.MaxInt}, {Kind: math.MinInt, Name: "\xff", Rest: true, Deep: true}, {Kind: api.CConst, Parts: []api.Core{a}}, {Kind: api.CVoid, Clauses: []api.Clause{{Body: a}}},
		{Datum: ring}, {Kind: api.CVar, Datum: ring}, {Datum: api.Datum{Kind: -7, Text: "\xff", Num: api.Num{Float: true, F: math.NaN(), I: api.Int{Neg: true, Limbs: []uint32{0}}}}}, {Datum: api.Datum{Kind: api.DSym}}, {Datum: api.Datum{Kind: api.DSym, Text: "a b"}},
		{Kind: api.CHandle, Clauses: make([]api.Clause, 3)}, {Kind: api.CLambda, Rest: true}, {Kind: api.CLambda, Rest: true, Parts: []api.Core{a}}, {Kind: api.CVar}, {Kind: api.CVar, Name: " "}, {Kind: api.CVar, Name: "a b"}, {Kind: api.CVar, Name: "nowhere"}, {Kind: api.CPerform, Name: "a b", Parts: []api.Core{a}}, {Kind: api.CPerform, Name: "\xff", Parts: []api.Core{a}}, {Kind: api.CPerform, Name: strings.Repeat("a", 101), Parts: []api.Core{a}},
		{Kind: api.CDefine, Name: strings.Repeat("a", 101), Parts: []api.Core{a}}, {Kind: api.CDefine, Name: "car", Parts: []api.Core{a}}, {Kind: api.CDefine, Name: "a b", Parts: []api.Core{a}}, {Kind: api.CSet, Name: "a b", Parts: []api.Core{a}}, {Kind: api.CSet, Name: "car", Parts: []api.Core{a}}, {Kind: api.CSet, Name: "nowhere", Parts: []api.Core{a}}, {Kind: api.CSeq, Parts: []api.Core{{Kind: api.CDefine, Name: "b", Parts: []api.Core{a}}, a}},
		{Kind: api.CHandle, Names: []string{"x"}, Parts: []api.Core{a, a}, Clauses: []api.Clause{{Label: strings.Repeat("b", 101), Arg: "x", K: "x", Body: a}}}, {Kind: api.CHandle, Names: []string{"x"}, Parts: []api.Core{a, a}, Clauses: []api.Clause{{Label: "x", Arg: "", K: "", Body: a}, {Label: "x", Body: api.Core{Kind: api.CVar}}}},
	}
	for kind := -1; kind <= api.CVoid+1; kind++ {
		for names := range 4 {
			for parts := range 5 {
				c := api.Core{Kind: kind, Name: "a", Names: []string{"a", "a", "b"}[:names], Rest: names == 1, Parts: []api.Core{a, {Kind: kind}, {Kind: api.CSet, Name: "a"}, a}[:parts], Clauses: []api.Clause{{Label: "a", Arg: "a", K: "a", Body: a}, {}}[:names/2]}
				d := c
				d.Parts = []api.Core{a, a, a, a}[:parts]
				l = append(l, c, d, api.Core{Kind: kind, Parts: []api.Core{c, c}}, api.Core{Kind: kind, Names: c.Names, Parts: []api.Core{d, d, d}})
			}
		}
	}
	return l
}

// ends asks for a program of any terms: there is one without a flaw, or ErrFrame and none.
func ends(t *testing.T, l []api.Core) api.Errno {
	t.Helper()
	a := asked(l)
	switch {
	case a.Error == api.OK && verify.Check(a.Code) == (api.Flaw{}):
	case a.Error == api.ErrFrame && reflect.DeepEqual(a.Code, api.Code{}):
	default:
		t.Errorf("%d, %s", a.Error, told(a.Code))
	}
	return a.Error
}

// P1
func TestAnyTermsEnd(t *testing.T) {
	l := oddTerms()
	for i, c := range l {
		ends(t, []api.Core{c})
		ends(t, []api.Core{{Kind: api.CLambda, Names: []string{"a"}, Parts: []api.Core{c}}})
		ends(t, []api.Core{{Kind: api.CVar, Name: "car"}, c, l[(i+1)%len(l)]})
		ends(t, []api.Core{{Kind: api.CIf, Parts: []api.Core{c, c, c}}, {Kind: api.CDefine, Name: "a", Parts: []api.Core{c}}, {Kind: api.CCall, Parts: []api.Core{c}}})
	}
	ends(t, l)
	ends(t, slices.Repeat([]api.Core{{Kind: api.CVar, Name: "car"}}, 1<<18))
}

// Terms that lie in themselves, or that are too many within one another: nobody comes to their end.
func TestTermsWithoutEnd(t *testing.T) {
	t.Parallel()
	a := api.Core{Kind: api.CVar, Name: "car"}
	for _, kind := range []int{-1, api.CSet, api.CLambda, api.CSeq, api.CLet, api.CHandle} {
		ring := api.Core{Kind: kind, Name: "b", Names: []string{"a", "b"}, Parts: []api.Core{a, a, a}}
		ring.Parts[1] = ring
		rings := api.Core{Kind: kind, Parts: make([]api.Core, 2)}
		rings.Parts[0], rings.Parts[1] = rings, rings
		clause := api.Core{Kind: kind, Parts: []api.Core{a, a}, Clauses: make([]api.Clause, 1)}
		clause.Clauses[0].Body = clause
		wide, deep := a, a
		for range 60 {
			wide = api.Core{Kind: kind, Parts: []api.Core{wide, wide}, Clauses: []api.Clause{{Body: wide}}}
		}
		for range 1 << 18 {
			deep = api.Core{Kind: kind, Parts: []api.Core{deep}}
		}
		for _, c := range []api.Core{ring, rings, clause, wide, deep} {
			refused(t, []api.Core{c})
			refused(t, []api.Core{a, {Kind: api.CLambda, Parts: []api.Core{c}}})
		}
	}
}

// Terms may lie within one another 2^16 times.
func TestTermsDeepWithinOneAnother(t *testing.T) {
	t.Parallel()
	b := []string{"b"}
	for i, outer := range []func(c api.Core) api.Core{
		func(c api.Core) api.Core { return api.Core{Kind: api.CSet, Name: "a", Parts: []api.Core{c}} },
		func(c api.Core) api.Core { return api.Core{Kind: api.CIf, Parts: []api.Core{c, {}, {}}} },
		func(c api.Core) api.Core { return api.Core{Kind: api.CIf, Parts: []api.Core{{}, {}, c}} },
		func(c api.Core) api.Core { return api.Core{Kind: api.CLambda, Names: b, Parts: []api.Core{c}} },
		func(c api.Core) api.Core { return api.Core{Kind: api.CSeq, Parts: []api.Core{{}, c}} },
		func(c api.Core) api.Core { return api.Core{Kind: api.CCall, Parts: []api.Core{{}, c}} },
		func(c api.Core) api.Core { return api.Core{Kind: api.CLet, Names: b, Parts: []api.Core{c, {}}} },
		func(c api.Core) api.Core { return api.Core{Kind: api.CLetrec, Names: b, Parts: []api.Core{{}, c}} },
		func(c api.Core) api.Core { return api.Core{Kind: api.CHandle, Names: b, Parts: []api.Core{{}, c}} },
		func(c api.Core) api.Core {
			return api.Core{Kind: api.CHandle, Names: b, Parts: []api.Core{{}, {}}, Clauses: []api.Clause{{Label: "l", Arg: "b", K: "k", Body: c}}}
		},
	} {
		c := api.Core{Kind: api.CVar, Name: "a"}
		for range 1 << 16 {
			c = outer(c)
		}
		if e := ends(t, []api.Core{{Kind: api.CLambda, Names: []string{"a"}, Parts: []api.Core{c}}}); e != api.ErrFrame {
			t.Errorf("%d: %d", i, e)
		}
	}
}

// A CLet without names is no instruction: so there may be as many within one another as one likes.
func TestLetsWithoutNamesDeepWithinOneAnother(t *testing.T) {
	c := api.Core{Kind: api.CVar, Name: "car"}
	for range 1 << 16 {
		c = api.Core{Kind: api.CLet, Parts: []api.Core{c}}
	}
	if p := compiled(t, []api.Core{c, c}).Procs[0]; head(p)+": "+body(p) != "main 0 0 1 0: prim car; pop; prim car; return" {
		t.Error(head(p), body(p))
	}
}

// Names that go through very many procedures, within one another: what comes out would be far more than there are terms.
func TestNamesThroughVeryManyProcedures(t *testing.T) {
	names := strings.Fields(many(1 << 13))
	c := api.Core{Kind: api.CSeq}
	for _, name := range names {
		c.Parts = append(c.Parts, api.Core{Kind: api.CVar, Name: name})
	}
	for range 1 << 15 {
		c = api.Core{Kind: api.CLambda, Parts: []api.Core{c}}
	}
	refused(t, []api.Core{{Kind: api.CLambda, Names: names, Parts: []api.Core{c}}})
}

// Terms that layer 8 could have made, of which a few parts are others.
func TestChangedTermsEnd(t *testing.T) {
	random := rand.New(rand.NewPCG(12, 4))
	odd := oddTerms()
	met := map[api.Errno]int{}
	for range 10 {
		for _, program := range programs(t) {
			l := whole(program, false)
			var lists []reflect.Value
			eachList(reflect.ValueOf(&l).Elem(), func(list reflect.Value) {
				if list.Type() == reflect.TypeFor[[]api.Core]() && list.Len() > 0 {
					lists = append(lists, list)
				}
			})
			for range 1 + random.IntN(2) {
				if len(lists) == 0 {
					break
				}
				if list := lists[random.IntN(len(lists))]; list.Len() > 0 { // it may have gone with another one
					list.Index(random.IntN(list.Len())).Set(reflect.ValueOf(odd[random.IntN(len(odd))]))
				}
			}
			met[ends(t, l)]++
		}
	}
	if met[api.OK] < 20 || met[api.ErrFrame] < 20 {
		t.Error(met)
	}
}
