package macro

import (
	"slices"

	"distaff/api"
)

const (
	ellipsis  = "..."
	underline = "_"
)

// rule is a RULE. The SYMBOL with which its PATTERN begins is left out.
type rule struct{ pattern, template part }

// The kinds of parts.
const (
	itself   = iota // a datum that stands for itself
	anything        // what fits everything
	variable
	list // with or without a tail
)

// part is a pattern or a TEMPLATE, or a part of one.
type part struct {
	kind  int
	datum api.Datum // that stands for itself
	names []string  // of the variables in it: its own, if it is one
	items []part
	tail  *part    // a list's; nil, if it has none
	many  bool     // an ELLIPSIS stands behind it
	by    []string // then: the variables in it that mean many there
}

// laying is how far a RULE is laid out: its PATTERN, then its TEMPLATE.
type laying struct {
	literals   map[string]int // each with 1
	ranks      map[string]int // of the variables
	inTemplate bool
}

// definedBy is the RULES of a list that begins with define-syntax; false, if it is no DEFINITION.
func definedBy(form api.Datum) ([]rule, bool) {
	if len(form.Items) != 3 || form.Items[1].Kind != api.DSym {
		return nil, false
	}
	body := form.Items[2]
	if body.Kind != api.DList || head(body) != "syntax-rules" || len(body.Items) < 3 {
		return nil, false
	}
	literals, ok := literalsOf(body.Items[1])
	if !ok {
		return nil, false
	}
	var rules []rule
	for _, d := range body.Items[2:] {
		r, ok := ruleOf(d, literals)
		if !ok {
			return nil, false
		}
		rules = append(rules, r)
	}
	return rules, true
}

// literalsOf is the LITERALS of a list.
func literalsOf(d api.Datum) (map[string]int, bool) {
	if d.Kind != api.DList {
		return nil, false
	}
	literals := map[string]int{}
	for _, item := range d.Items {
		if item.Kind != api.DSym || item.Text == ellipsis || item.Text == underline {
			return nil, false
		}
		literals[item.Text] = 1
	}
	return literals, true
}

// ruleOf is the RULE that a datum is.
func ruleOf(d api.Datum, literals map[string]int) (rule, bool) {
	if d.Kind != api.DList || len(d.Items) != 2 || head(d.Items[0]) == "" {
		return rule{}, false
	}
	l := laying{literals: literals, ranks: map[string]int{}}
	pattern, ok := l.list(d.Items[0].Kind, d.Items[0].Items[1:], 0)
	if !ok {
		return rule{}, false
	}
	l.inTemplate = true
	template, ok := l.part(d.Items[1], 0)
	return rule{pattern, template}, ok
}

// part lays out a datum that has so many Items with an ELLIPSIS around it.
func (l *laying) part(d api.Datum, around int) (part, bool) {
	switch {
	case isList(d):
		return l.list(d.Kind, d.Items, around)
	case d.Kind != api.DSym:
		return part{datum: d}, true
	case d.Text == ellipsis:
		return part{}, false
	case l.inTemplate:
		return l.symbolOfTemplate(d, around)
	}
	return l.symbolOfPattern(d, around)
}

// symbolOfPattern lays out a symbol of the PATTERN. A variable gets its RANK by that.
func (l *laying) symbolOfPattern(d api.Datum, around int) (part, bool) {
	switch {
	case d.Text == underline:
		return part{kind: anything}, true
	case l.literals[d.Text] > 0:
		return part{datum: d}, true
	}
	_, twice := l.ranks[d.Text]
	l.ranks[d.Text] = around
	return part{kind: variable, names: []string{d.Text}}, !twice
}

// symbolOfTemplate lays out a symbol of the TEMPLATE.
func (l *laying) symbolOfTemplate(d api.Datum, around int) (part, bool) {
	rank, ok := l.ranks[d.Text]
	if !ok {
		return part{datum: d}, true
	}
	return part{kind: variable, names: []string{d.Text}}, around >= rank
}

// list lays out the Items of a list, with or without a tail.
func (l *laying) list(kind int, items []api.Datum, around int) (part, bool) {
	p := part{kind: list}
	if kind == api.DDot {
		last := len(items) - 1
		tail, ok := l.part(items[last], around)
		if !ok {
			return part{}, false
		}
		p.tail, p.names = &tail, append(p.names, tail.names...)
		items = items[:last]
	}
	for len(items) > 0 {
		item, rest, ok := l.item(items, around)
		if !ok {
			return part{}, false
		}
		p.items, p.names = append(p.items, item), append(p.names, item.names...)
		items = rest
	}
	return p, l.inTemplate || p.canBePattern()
}

// item lays out the first one of some Items, with the ELLIPSIS that stands behind it, and tells what is left of them.
func (l *laying) item(items []api.Datum, around int) (part, []api.Datum, bool) {
	first, rest := items[0], items[1:]
	if len(rest) == 0 || rest[0].Kind != api.DSym || rest[0].Text != ellipsis {
		p, ok := l.part(first, around)
		return p, rest, ok
	}
	p, ok := l.part(first, around+1)
	p.many, p.by = true, l.ofRank(p.names, around+1)
	return p, rest[1:], ok && (len(p.by) > 0 || !l.inTemplate)
}

// ofRank is those of some variables whose RANK is at least as great.
func (l *laying) ofRank(names []string, rank int) []string {
	return slices.DeleteFunc(slices.Clone(names), func(name string) bool { return l.ranks[name] < rank })
}

// canBePattern asks whether a list of a pattern has no more ELLIPSES than it may have.
func (p part) canBePattern() bool {
	first := slices.IndexFunc(p.items, part.isMany)
	return first < 0 || p.tail == nil && !slices.ContainsFunc(p.items[first+1:], part.isMany)
}

// isMany asks whether an ELLIPSIS stands behind it.
func (p part) isMany() bool {
	return p.many
}
