package core_test

import (
	"slices"
	"strings"
	"testing"

	"distaff/api"
	"distaff/core"
	"distaff/reader"
)

// Layer 8 once more, written another way: SHAPES are patterns, forms that stand for others are rewritten as data, terms are texts at once, names are looked up on the way, errors are panics. What Make answers is held against that, for programs that nobody has thought of.

// patterns is the SHAPES that stand behind each KEYWORD: S is a SYMBOL, F FORMALS, R a row of a do, C a clause of a handler, e anything.
var patterns = map[string]string{
	"quote": "(e)", "quasiquote": "(e)", "if": "(e e) (e e e)", "begin": "(e e ...)", "set!": "(S e)", "lambda": "(F e e ...)", "let": "(((S e) ...) e e ...) (S ((S e) ...) e e ...)", "let*": "(((S e) ...) e e ...)", "letrec": "(((S e) ...) e e ...)", "letrec*": "(((S e) ...) e e ...)",
	"and": "(e ...)", "or": "(e ...)", "when": "(e e e ...)", "unless": "(e e e ...)", "cond": "(e ...)", "case": "(e e ...)", "do": "((R ...) (e e ...) e ...)", "handle": "(e C ...)", "handle-shallow": "(e C ...)", "perform": "(S) (S e)",
	"define": "(S e) ((S e ...) e e ...) ((S e ... . e) e e ...)", "R": "(S e) (S e e)", "return": "(return (S) e e ...)", "label": "(S (S S) e e ...)", "condition": "(e e ...)", "case clause": "((e ...) e e ...)", "else": "(else e e ...)", "=>": "(e => e)", "alone": "(e)",
}

// shapes is the patterns as data.
var shapes = map[string][]api.Datum{}

// fit asks whether a datum has one of the SHAPES of that name.
func fit(name string, d api.Datum) bool {
	if shapes[name] == nil {
		shapes[name], _ = reader.Read([]byte(patterns[name]))
	}
	return slices.ContainsFunc(shapes[name], func(p api.Datum) bool { return fits(p, d) })
}

func fits(p, d api.Datum) bool {
	switch {
	case p.Kind == api.DSym && p.Text == "e":
		return true
	case p.Kind == api.DSym && p.Text == "S":
		return d.Kind == api.DSym
	case p.Kind == api.DSym && p.Text == "F":
		_, _, ok := refFormals(d)
		return ok
	case p.Kind == api.DSym && p.Text == "R":
		return fit("R", d)
	case p.Kind == api.DSym && p.Text == "C":
		return fit("return", d) || fit("label", d)
	case p.Kind == api.DSym:
		return d.Kind == api.DSym && d.Text == p.Text
	}
	if p.Kind != d.Kind {
		return false
	}
	items, rest := p.Items, d.Items
	if p.Kind == api.DDot { // the tails
		items, rest = items[:len(items)-1], rest[:len(rest)-1]
	}
	for len(items) > 0 {
		if len(items) == 2 && items[1].Text == "..." {
			return !slices.ContainsFunc(rest, func(item api.Datum) bool { return !fits(items[0], item) })
		}
		if len(rest) == 0 || !fits(items[0], rest[0]) {
			return false
		}
		items, rest = items[1:], rest[1:]
	}
	return len(rest) == 0
}

// refFormals is the SYMBOLS of FORMALS.
func refFormals(d api.Datum) (names []string, rest, ok bool) {
	items := []api.Datum{d}
	if d.Kind == api.DList || d.Kind == api.DDot {
		items = d.Items
	}
	for _, item := range items {
		if item.Kind != api.DSym {
			return nil, false, false
		}
		names = append(names, item.Text)
	}
	return names, d.Kind != api.DList, true
}

// use is a name that is asked for where nothing is bound to it but, maybe, by a CDefine.
type use struct {
	name string
	at   int
}

type reference struct {
	at      int
	env     []string // bound where it is
	defined []string
	open    []use
	out     []string
}

func fail(e api.Errno) { panic(e) }

func must(ok bool, e api.Errno) {
	if !ok {
		fail(e)
	}
}

func isWord(words, name string) bool { return slices.Contains(strings.Fields(words), name) }

// first is the name ahead in a list.
func first(d api.Datum) string {
	if d.Kind == api.DList && len(d.Items) > 0 && d.Items[0].Kind == api.DSym {
		return d.Items[0].Text
	}
	return ""
}

// binds looks at names that are bound by one form.
func binds(names ...string) {
	for i, name := range names {
		must(!isWord(keywords, name) && !isWord(api.Prims, name) && !slices.Contains(names[:i], name), api.ErrBind)
	}
}

// with is what comes of a call where names are bound.
func (r *reference) with(names []string, f func() string) string {
	n := len(r.env)
	r.env = append(r.env, names...)
	text := f()
	r.env = r.env[:n]
	return text
}

func (r *reference) lookUp(name string) string {
	if !slices.Contains(r.env, name) && !isWord(api.Prims, name) {
		r.open = append(r.open, use{name, r.at})
	}
	if name == " t" || name == " l" {
		return "{" + name[1:] + "}"
	}
	return name
}

// rewritten is a datum that stands for a form, in which what begins with a blank is no SYMBOL of a program.
func rewritten(parts ...any) api.Datum {
	var l []api.Datum
	for _, part := range parts {
		switch x := part.(type) {
		case string:
			l = append(l, sym(x))
		case api.Datum:
			l = append(l, x)
		case []api.Datum:
			l = append(l, x...)
		}
	}
	return list(l...)
}

var (
	yes = api.Datum{Kind: api.DBool, N: 1}
	no  = api.Datum{Kind: api.DBool}
)

// keep is a let of T.
func keep(a, body api.Datum) api.Datum { return rewritten(" let", list(sym(" t")), list(a), body) }

// void is what comes to CVoid.
func void() api.Datum { return rewritten(" void") }

func (r *reference) term(d api.Datum) string {
	switch d.Kind {
	case api.DSym:
		must(!isWord(keywords, d.Text), api.ErrSyntax)
		return r.lookUp(d.Text)
	case api.DDot:
		fail(api.ErrSyntax)
	case api.DList:
		must(len(d.Items) > 0, api.ErrSyntax)
		name := first(d)
		if strings.HasPrefix(name, " ") {
			return r.own(name, d.Items[1:])
		}
		if !isWord(keywords, name) {
			return "[" + strings.TrimPrefix(r.all(d.Items), " ") + "]"
		}
		must(name != "define" && name != "define-syntax", api.ErrDefine)
		must(fit(name, list(d.Items[1:]...)), api.ErrSyntax)
		return r.special(name, d.Items[1:])
	}
	return "'" + printed([]api.Datum{d})
}

// all is the TERMS of data, a blank ahead of each.
func (r *reference) all(l []api.Datum) string {
	var b strings.Builder
	for _, d := range l {
		b.WriteString(" " + r.term(d))
	}
	return b.String()
}

// own is what the forms make that only rewriting makes.
func (r *reference) own(name string, l []api.Datum) string {
	switch name {
	case " void":
		return "#void"
	case " call":
		return "[" + strings.TrimPrefix(r.all(l), " ") + "]"
	case " cases":
		return r.term(cases(l))
	}
	return "(let ({t})" + r.all(l[1].Items) + " " + r.with([]string{" t"}, func() string { return r.term(l[2]) }) + ")"
}

func (r *reference) seq(l []api.Datum) string {
	if len(l) == 1 {
		return r.term(l[0])
	}
	return "(seq" + r.all(l) + ")"
}

func (r *reference) special(name string, l []api.Datum) string {
	switch name {
	case "quote":
		return "'" + printed(l)
	case "quasiquote":
		return r.quasi(paired(l[0]))
	case "if":
		if len(l) == 2 {
			l = []api.Datum{l[0], l[1], void()}
		}
		return "(if" + r.all(l) + ")"
	case "begin":
		return r.seq(l)
	case "set!":
		binds(l[0].Text)
		name := r.lookUp(l[0].Text)
		return "(set! " + name + r.all(l[1:]) + ")"
	case "lambda":
		return r.lambda(l[0], l[1:])
	case "perform":
		if len(l) == 1 {
			l = []api.Datum{l[0], void()}
		}
		return "(perform " + l[0].Text + r.all(l[1:]) + ")"
	case "handle", "handle-shallow":
		return r.handle(map[string]string{"handle": "deep", "handle-shallow": "shallow"}[name], l)
	case "let", "letrec", "letrec*", "let*":
		return r.let(name, l)
	case "do":
		return r.do(l)
	case "case":
		return r.term(keep(l[0], rewritten(" cases", l[1:])))
	}
	return r.term(rewrite(name, l))
}

// rewrite is what a form stands for that is told by others.
func rewrite(name string, l []api.Datum) api.Datum {
	switch name + strings.Repeat(" 1", min(len(l), 2)) {
	case "and":
		return yes
	case "or":
		return no
	case "and 1", "or 1":
		return l[0]
	case "and 1 1":
		return rewritten("if", l[0], rewritten("and", l[1:]), no)
	case "or 1 1":
		return keep(l[0], rewritten("if", " t", " t", rewritten("or", l[1:])))
	case "when 1 1":
		return rewritten("if", l[0], rewritten("begin", l[1:]), void())
	case "unless 1 1":
		return rewritten("if", l[0], void(), rewritten("begin", l[1:]))
	case "cond":
		return void()
	}
	rest := rewritten("cond", l[1:])
	switch clause := l[0]; {
	case len(l) == 1 && fit("else", clause):
		return rewritten("begin", clause.Items[1:])
	case first(clause) == "else" || !fit("condition", clause) && !fit("alone", clause):
		fail(api.ErrSyntax)
	case fit("alone", clause):
		return keep(clause.Items[0], rewritten("if", " t", " t", rest))
	case fit("=>", clause):
		return keep(clause.Items[0], rewritten("if", " t", rewritten(" call", clause.Items[2], " t"), rest))
	}
	return rewritten("if", l[0].Items[0], rewritten("begin", l[0].Items[1:]), rest)
}

// cases is what a case's clauses stand for.
func cases(l []api.Datum) api.Datum {
	if len(l) == 0 {
		return void()
	}
	if len(l) == 1 && fit("else", l[0]) {
		return rewritten("begin", l[0].Items[1:])
	}
	must(fit("case clause", l[0]), api.ErrSyntax)
	keys, then := l[0].Items[0], l[0].Items[1:]
	return rewritten("if", rewritten("memv", " t", rewritten("quote", keys)), rewritten("begin", then), rewritten(" cases", l[1:]))
}

func (r *reference) lambda(f api.Datum, body []api.Datum) string {
	names, rest, ok := refFormals(f)
	must(ok, api.ErrSyntax)
	binds(names...)
	return "(lambda " + formals(names, rest) + " " + r.with(names, func() string { return r.body(body) }) + ")"
}

// split is the names and the values of rows.
func split(rows api.Datum) (names []string, values []api.Datum) {
	for _, row := range rows.Items {
		names, values = append(names, row.Items[0].Text), append(values, row.Items[1])
	}
	return names, values
}

func (r *reference) let(kind string, l []api.Datum) string {
	if l[0].Kind == api.DSym {
		return r.loop(l[0].Text, l[1], l[2:])
	}
	names, values := split(l[0])
	if kind == "let*" && len(names) > 1 {
		binds(names[0])
		a := r.all(values[:1])
		return "(let (" + names[0] + ")" + a + " " + r.with(names[:1], func() string { return r.let(kind, append([]api.Datum{list(l[0].Items[1:]...)}, l[1:]...)) }) + ")"
	}
	binds(names...)
	body := func() string { return " " + r.body(l[1:]) + ")" }
	if strings.HasPrefix(kind, "letrec") {
		return "(letrec " + formals(names, false) + r.with(names, func() string { return r.all(values) + body() })
	}
	a := r.all(values)
	return "(let " + formals(names, false) + a + r.with(names, body)
}

func (r *reference) loop(f string, rows api.Datum, body []api.Datum) string {
	names, values := split(rows)
	binds(append([]string{f}, names...)...)
	a := r.all(values)
	lambda := r.with(append([]string{f}, names...), func() string { return "(lambda " + formals(names, false) + " " + r.body(body) + ")" })
	return "[(letrec (" + f + ") " + lambda + " " + f + ")" + a + "]"
}

func (r *reference) do(l []api.Datum) string {
	names, values := split(l[0])
	binds(names...)
	a := r.all(values)
	return "[(letrec ({l}) (lambda " + formals(names, false) + " " + r.with(names, func() string {
		text := "(if " + r.term(l[1].Items[0]) + " "
		if ends := l[1].Items[1:]; len(ends) > 0 {
			text += r.seq(ends)
		} else {
			text += "#void"
		}
		work := r.all(l[2:])
		again := " [{l}"
		for _, row := range l[0].Items {
			again += " " + r.term(append(row.Items, row.Items[0])[2])
		}
		if again += "]"; work == "" {
			return text + again + ")"
		}
		return text + " (seq" + work + again + "))"
	}) + ") {l})" + a + "]"
}

func (r *reference) handle(kind string, l []api.Datum) string {
	labels := []string{}
	for _, clause := range l[1:] {
		label := first(clause)
		if fit("return", clause) {
			label = " return"
		}
		must(!slices.Contains(labels, label), api.ErrSyntax)
		labels = append(labels, label)
	}
	a := r.term(l[0])
	back, clauses := "({t}) "+a+" {t}", ""
	for _, clause := range l[1:] {
		names, _, _ := refFormals(clause.Items[1])
		binds(names...)
		body := r.with(names, func() string { return r.body(clause.Items[2:]) })
		if len(names) == 1 {
			back = formals(names, false) + " " + a + " " + body
		} else {
			clauses += " (" + first(clause) + " " + strings.Join(names, " ") + " " + body + ")"
		}
	}
	return "(" + kind + " " + back + clauses + ")"
}

// definition is the name of a DEFINITION, and a datum that makes its value.
func definition(d api.Datum) (string, func(r *reference) string) {
	must(fit("define", list(d.Items[1:]...)), api.ErrSyntax)
	what := d.Items[1]
	if what.Kind == api.DSym {
		return what.Text, func(r *reference) string { return r.term(d.Items[2]) }
	}
	f := api.Datum{Kind: what.Kind, Items: what.Items[1:]}
	if what.Kind == api.DDot && len(what.Items) == 2 {
		f = what.Items[1]
	}
	return what.Items[0].Text, func(r *reference) string { return r.lambda(f, d.Items[2:]) }
}

func (r *reference) body(l []api.Datum) string {
	var names []string
	var values []func(r *reference) string
	for len(l) > 0 && first(l[0]) == "define" {
		name, value := definition(l[0])
		names, values, l = append(names, name), append(values, value), l[1:]
	}
	must(len(l) > 0, api.ErrSyntax)
	if len(names) == 0 {
		return r.seq(l)
	}
	binds(names...)
	return "(letrec " + formals(names, false) + r.with(names, func() string {
		text := ""
		for _, value := range values {
			text += " " + value(r)
		}
		return text + " " + r.seq(l)
	}) + ")"
}

// cell is a pair; the empty list is a nil one, all else an api.Datum.
type cell struct{ first, rest any }

// paired is a datum in pairs, but what is in vectors.
func paired(d api.Datum) any {
	var x any = (*cell)(nil)
	items := d.Items
	switch d.Kind {
	case api.DDot:
		x, items = paired(items[len(items)-1]), items[:len(items)-1]
	case api.DList:
	default:
		return d
	}
	for _, item := range slices.Backward(items) {
		x = &cell{paired(item), x}
	}
	return x
}

// unpaired is the datum of pairs.
func unpaired(x any) api.Datum {
	if d, ok := x.(api.Datum); ok {
		return d
	}
	l := list()
	for {
		c, ok := x.(*cell)
		if !ok {
			return api.Datum{Kind: api.DDot, Items: append(l.Items, x.(api.Datum))}
		}
		if c == nil {
			return l
		}
		l.Items, x = append(l.Items, unpaired(c.first)), c.rest
	}
}

// marked is the name of a MARK.
func marked(x any) string {
	if d, ok := x.(api.Datum); ok && d.Kind == api.DSym && isWord("unquote unquote-splicing quasiquote", d.Text) {
		return d.Text
	}
	return ""
}

// pair is a pair, nil if it is none.
func pair(x any) *cell {
	c, _ := x.(*cell)
	return c
}

// second is the datum of a list of two, that begins with one of some words.
func second(x any, words string) (any, bool) {
	c := pair(x)
	if c == nil || !isWord(words, marked(c.first)) || pair(c.rest) == nil {
		return nil, false
	}
	end, ok := pair(c.rest).rest.(*cell)
	return pair(c.rest).first, ok && end == nil
}

// needs asks whether what stands in the place of a datum NEEDS work.
func needs(x any) bool {
	if d, ok := x.(api.Datum); ok {
		return d.Kind == api.DVec && needs(paired(list(d.Items...)))
	}
	c := pair(x)
	return c != nil && (marked(c.first) != "" || needs(c.first) || leftNeeds(c.rest))
}

// leftNeeds asks whether what stands behind an Item NEEDS work.
func leftNeeds(x any) bool {
	if _, ok := second(x, "unquote unquote-splicing"); ok {
		return true
	}
	if c := pair(x); c != nil {
		return needs(c.first) || leftNeeds(c.rest)
	}
	return needs(x)
}

func (r *reference) quasi(x any) string {
	if !needs(x) {
		return "'" + printed([]api.Datum{unpaired(x)})
	}
	if d, ok := x.(api.Datum); ok {
		return "[list->vector " + r.quasi(paired(list(d.Items...))) + "]"
	}
	if a, ok := second(x, "unquote"); ok {
		return r.term(unpaired(a))
	}
	must(marked(pair(x).first) == "", api.ErrSyntax)
	return r.item(pair(x))
}

// item is what a pair makes, in which what is first is no MARK that counts.
func (r *reference) item(c *cell) string {
	if inner := pair(c.first); inner != nil && marked(inner.first) == "unquote-splicing" {
		a, ok := second(inner, "unquote-splicing")
		must(ok, api.ErrSyntax)
		return "[append " + r.term(unpaired(a)) + " " + r.left(c.rest) + "]"
	}
	return "[cons " + r.quasi(c.first) + " " + r.left(c.rest) + "]"
}

// left is what stands behind an Item makes.
func (r *reference) left(x any) string {
	a, ends := second(x, "unquote unquote-splicing")
	switch {
	case ends:
		must(marked(pair(x).first) == "unquote", api.ErrSyntax)
		return r.term(unpaired(a))
	case !leftNeeds(x):
		return "'" + printed([]api.Datum{unpaired(x)})
	case pair(x) == nil:
		return r.quasi(x)
	}
	return r.item(pair(x))
}

// form goes through a form.
func (r *reference) form(d api.Datum) {
	switch {
	case first(d) == "begin" && fit("begin", list(d.Items[1:]...)):
		for _, item := range d.Items[1:] {
			r.form(item)
		}
	case first(d) == "define":
		name, value := definition(d)
		binds(name)
		r.defined = append(r.defined, name)
		r.out = append(r.out, "(define "+name+" "+value(r)+")")
	default:
		r.out = append(r.out, r.term(d))
	}
}

// refer makes the terms of a program.
func refer(l []api.Datum) (out []string, fault api.Fault) {
	r := &reference{}
	defer func() {
		if met := recover(); met != nil {
			out, fault = nil, api.Fault{Err: met.(api.Errno), At: r.at}
		}
	}()
	for at, d := range l {
		r.at = at
		r.form(d)
	}
	for _, u := range r.open {
		r.at = u.at
		must(slices.Contains(r.defined, u.name), api.ErrScope)
	}
	return r.out, api.Fault{}
}

// agree complains, if Make answers otherwise.
func agree(t *testing.T, l []api.Datum) api.Errno {
	t.Helper()
	want, fault := refer(l)
	terms, e := core.Make(l)
	var got []string
	for _, c := range terms {
		got = append(got, told(c))
	}
	if e != fault || !slices.Equal(got, want) {
		t.Errorf("%s:\n%s, %v, not\n%s, %v", short(printed(l)), short(strings.Join(got, "\n")), e, short(strings.Join(want, "\n")), fault)
	}
	return fault.Err
}
