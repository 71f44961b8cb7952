package free

import "distaff/api"

// scope is the numbers of what each name is bound to where a term stands, the innermost last.
type scope map[string][]int

// enter binds names, the first of them to a number, each further one to the next.
func (s scope) enter(names []string, first int) {
	for i, name := range names {
		s[name] = append(s[name], first+i)
	}
}

// leave is the end of where these names are bound.
func (s scope) leave(names []string) {
	for _, name := range names {
		numbers := s[name]
		s[name] = numbers[:len(numbers)-1]
	}
}

// number is that of what a name means; 0, if it isn't bound.
func (s scope) number(name string) int {
	numbers := s[name]
	if len(numbers) == 0 {
		return 0
	}
	return numbers[len(numbers)-1]
}

// isUse asks whether a term uses its name.
func isUse(c *api.Core) bool {
	return c.Kind == api.CVar || c.Kind == api.CSet
}

// outsideOf is how many of a term's first parts its names aren't bound in.
func outsideOf(c *api.Core) int {
	switch c.Kind {
	case api.CLet:
		return min(len(c.Names), len(c.Parts))
	case api.CHandle:
		return min(1, len(c.Parts))
	}
	return 0
}
