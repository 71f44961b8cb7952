package core

import (
	"slices"

	"distaff/api"
)

// scope is how often each name is bound where a term stands.
type scope map[string]int

// firstUnbound is the place of the first term with a name that nothing is bound to; -1, if there is none.
func firstUnbound(l []api.Core) int {
	s := scope{}
	for _, c := range l {
		if c.Kind == api.CDefine {
			s[c.Name]++
		}
	}
	return slices.IndexFunc(l, func(c api.Core) bool { return !s.holds(c) })
}

// holds asks whether all names that a term uses are bound.
func (s scope) holds(c api.Core) bool {
	uses := c.Kind == api.CVar || c.Kind == api.CSet
	if uses && s[c.Name] == 0 && !isPrimitive(c.Name) {
		return false
	}
	outside := outsideOf(c)
	if !s.holdAll(c.Parts[:outside]) || !s.holdAll(c.Parts[outside:], c.Names...) {
		return false
	}
	return !slices.ContainsFunc(c.Clauses, func(x api.Clause) bool { return !s.holdAll([]api.Core{x.Body}, x.Arg, x.K) })
}

// holdAll asks the same of terms within which some names more are bound.
func (s scope) holdAll(l []api.Core, names ...string) bool {
	for _, name := range names {
		s[name]++
	}
	ok := all(l, func(part api.Core) bool { return s.holds(part) })
	for _, name := range names {
		s[name]--
	}
	return ok
}

// all asks whether each of some terms is what it must be.
func all(l []api.Core, must func(part api.Core) bool) bool {
	for _, part := range l {
		if !must(part) {
			return false
		}
	}
	return true
}

// outsideOf is how many of a term's first parts its names aren't bound in.
func outsideOf(c api.Core) int {
	switch c.Kind {
	case api.CLet:
		return len(c.Names)
	case api.CHandle:
		return 1
	}
	return 0
}
