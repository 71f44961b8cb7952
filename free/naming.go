package free

import (
	"strconv"
	"strings"

	"distaff/api"
	"distaff/datum"
)

// naming is what is bound where a term stands, and the number that was given last.
type naming struct {
	scope scope
	last  int
}

// terms is the Unique ones of some terms.
func (n *naming) terms(l []api.Core) []api.Core {
	var out []api.Core
	for i := range l {
		out = append(out, n.term(&l[i]))
	}
	return out
}

// term is the Unique one of a term.
func (n *naming) term(c *api.Core) api.Core {
	out := api.Core{Kind: c.Kind, Name: strings.Clone(c.Name), Datum: datum.Copy(c.Datum), Rest: c.Rest, Deep: c.Deep}
	if number := n.scope.number(c.Name); number > 0 && isUse(c) {
		out.Name = numbered(c.Name, number)
	}
	first := n.number(c.Names)
	out.Names = allNumbered(c.Names, first)
	outside := outsideOf(c)
	out.Parts = append(n.terms(c.Parts[:outside]), n.within(c.Names, first, c.Parts[outside:])...)
	for i := range c.Clauses {
		out.Clauses = append(out.Clauses, n.clause(&c.Clauses[i]))
	}
	return out
}

// clause is a clause with the Unique one of its Body.
func (n *naming) clause(x *api.Clause) api.Clause {
	names := []string{x.Arg, x.K}
	first := n.number(names)
	body := n.within(names, first, []api.Core{x.Body})
	return api.Clause{Label: strings.Clone(x.Label), Arg: numbered(x.Arg, first), K: numbered(x.K, first+1), Body: body[0]}
}

// within is the Unique ones of terms within which names are bound.
func (n *naming) within(names []string, first int, l []api.Core) []api.Core {
	n.scope.enter(names, first)
	out := n.terms(l)
	n.scope.leave(names)
	return out
}

// number gives each of some names the next number, and answers the first of these.
func (n *naming) number(names []string) int {
	first := n.last + 1
	n.last += len(names)
	return first
}

// allNumbered is names with their numbers, of which the first one is given.
func allNumbered(names []string, first int) []string {
	var out []string
	for i, name := range names {
		out = append(out, numbered(name, first+i))
	}
	return out
}

// numbered is a name with its number.
func numbered(name string, number int) string {
	return name + " " + strconv.Itoa(number)
}
