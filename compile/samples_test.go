package compile_test

import (
	"fmt"
	"reflect"
	"slices"
	"strconv"
	"strings"
	"sync"
	"testing"

	"distaff/api"
	"distaff/compile"
	"distaff/core"
	"distaff/datum"
	"distaff/reader"
	"distaff/verify"
)

// data is the data of a text.
func data(t testing.TB, text string) []api.Datum {
	t.Helper()
	l, fault := reader.Read([]byte(text))
	if fault != (api.Fault{}) {
		t.Fatalf("%s: can't be read: %v", short(text), fault)
	}
	return l
}

// made is the terms of programs' texts, one behind the other: all of them are one program.
func made(t testing.TB, texts ...string) []api.Core {
	t.Helper()
	var forms []api.Datum
	for _, text := range texts {
		forms = append(forms, data(t, text)...)
	}
	l, fault := core.Make(forms)
	if fault != (api.Fault{}) {
		t.Fatalf("%s: can't be made: %v", short(strings.Join(texts, " ")), fault)
	}
	return l
}

// short is a text that isn't too long to be told.
func short(s string) string {
	if len(s) > 1000 {
		return s[:500] + " .. " + s[len(s)-500:]
	}
	return s
}

// names is how each instruction is called here, in the order of their numbers, with A behind it if it has one; IHandle has B, too.
const names = `const-A local-A setlocal-A free-A global-A setglobal-A defglobal-A box unbox setbox closure-A jump-A branch-A call-A tail-A return pop handle-A perform-A void prim-A fresh`

var called = sync.OnceValue(func() []string { return strings.Fields(names) })

var prims = sync.OnceValue(func() []string { return strings.Fields(api.Prims) })

// written is an instruction as it is written here: car stands for the primitive's number.
func written(x api.Instr) string {
	if x.Op < 0 || x.Op >= len(called()) {
		return fmt.Sprint(x)
	}
	name, hasA := strings.CutSuffix(called()[x.Op], "-A")
	a, b := " "+strconv.Itoa(x.A), ""
	switch {
	case x.Op == api.IPrim && x.A >= 0 && x.A < len(prims()):
		a = " " + prims()[x.A]
	case !hasA && x.A == 0:
		a = ""
	}
	if x.Op == api.IHandle || x.B != 0 {
		b = " " + strconv.Itoa(x.B)
	}
	return name + a + b
}

// body is a procedure's instructions as they are written here.
func body(p api.Proc) string {
	var l []string
	for _, x := range p.Code {
		l = append(l, written(x))
	}
	return strings.Join(l, "; ")
}

// head is all else that a procedure has: its name, Params (with + ahead of Rest), Slots, Depth, Free.
func head(p api.Proc) string {
	params := strconv.Itoa(p.Params)
	if p.Rest {
		params += "+"
	}
	return fmt.Sprintf("%s %s %d %d %d", p.Name, params, p.Slots, p.Depth, p.Free)
}

// told is a program's text.
func told(c api.Code) string {
	var b strings.Builder
	for _, p := range c.Procs {
		b.WriteString(head(p) + ": " + body(p) + "\n")
	}
	return short(b.String() + "Consts " + printed(c.Consts) + "\nGlobals " + strings.Join(c.Globals, " "))
}

// printed is data's texts.
func printed(l []api.Datum) string {
	var texts []string
	for _, d := range l {
		text, e := datum.Print(d)
		if e != api.OK {
			text = fmt.Sprint(d)
		}
		texts = append(texts, text)
	}
	return strings.Join(texts, " ")
}

// compiled is the program of terms for which there is one: it has no flaw.
func compiled(t testing.TB, l []api.Core) api.Code {
	t.Helper()
	c, e := compile.Make(l)
	if e != api.OK {
		t.Fatalf("%d", e)
	}
	if flaw := verify.Check(c); flaw != (api.Flaw{}) {
		t.Fatalf("%+v: %s", flaw, told(c))
	}
	return c
}

// program is that of a text.
func program(t testing.TB, text string) api.Code {
	t.Helper()
	return compiled(t, made(t, text))
}

// refused complains, if there is a program of terms, or another error.
func refused(t testing.TB, l []api.Core) {
	t.Helper()
	c, e := compile.Make(l)
	if e != api.ErrFrame {
		t.Errorf("%d, not ErrFrame", e)
	}
	if !reflect.DeepEqual(c, api.Code{}) {
		t.Errorf("beside ErrFrame: %s", told(c))
	}
}

// procs complains, if what is told of the procedures of a text's program is something else.
func procs(t *testing.T, text string, tell func(api.Proc) string, want []string) {
	t.Helper()
	var got []string
	for _, p := range program(t, text).Procs {
		got = append(got, tell(p))
	}
	if !slices.Equal(got, want) {
		t.Errorf("%s:\n%s\nnot\n%s", text, strings.Join(got, "\n"), strings.Join(want, "\n"))
	}
}

// bodies complains, if the procedures haven't these instructions.
func bodies(t *testing.T, text string, want ...string) {
	t.Helper()
	procs(t, text, body, want)
}

// heads complains, if they haven't these names and numbers.
func heads(t *testing.T, text string, want ...string) {
	t.Helper()
	procs(t, text, head, want)
}

// consts complains, if a text's program has other Consts.
func consts(t *testing.T, text, want string) {
	t.Helper()
	if got := program(t, text).Consts; !slices.EqualFunc(got, data(t, want), datum.Same) {
		t.Errorf("%s: %s, not %s", text, printed(got), want)
	}
}

// globals complains, if a text's program has other Globals.
func globals(t *testing.T, text, want string) {
	t.Helper()
	if got := program(t, text).Globals; !slices.Equal(got, strings.Fields(want)) {
		t.Errorf("%s: %q, not %s", text, got, want)
	}
}
