package free

import (
	"strings"

	"distaff/api"
)

// found is names, each once, in the order in which they were met first.
type found struct {
	names []string
	met   map[string]int
}

// meet puts a name behind the others, if it wasn't met yet.
func (f *found) meet(name string) {
	if f.met[name] == 0 {
		f.met[name] = 1
		f.names = append(f.names, strings.Clone(name))
	}
}

// changes meets the names that change in some terms.
func (f *found) changes(l []api.Core) {
	for i := range l {
		f.change(&l[i])
	}
}

// change meets the names that change in a term.
func (f *found) change(c *api.Core) {
	switch c.Kind {
	case api.CSet:
		f.meet(c.Name)
	case api.CLetrec:
		for _, name := range c.Names {
			f.meet(name)
		}
	}
	f.changes(c.Parts)
	for i := range c.Clauses {
		f.change(&c.Clauses[i].Body)
	}
}

// uses is the names that were found, and what is bound where a term stands.
type uses struct {
	found
	scope scope
}

// terms meets the names that some terms use, but don't bind.
func (u *uses) terms(l []api.Core) {
	for i := range l {
		u.term(&l[i])
	}
}

// term meets the names that a term uses, but doesn't bind.
func (u *uses) term(c *api.Core) {
	if isUse(c) && u.scope.number(c.Name) == 0 {
		u.meet(c.Name)
	}
	outside := outsideOf(c)
	u.terms(c.Parts[:outside])
	u.within(c.Names, c.Parts[outside:])
	for i := range c.Clauses {
		x := &c.Clauses[i]
		u.within([]string{x.Arg, x.K}, []api.Core{x.Body})
	}
}

// within is terms of those within which names are bound: which number they have doesn't matter.
func (u *uses) within(names []string, l []api.Core) {
	u.scope.enter(names, 1)
	u.terms(l)
	u.scope.leave(names)
}
