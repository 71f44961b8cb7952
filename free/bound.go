package free

import (
	"distaff/api"
	"distaff/datum"
)

// Terms may lie in themselves, or so often in one another that nobody comes to their end.
// What takes more than the document's bound is no such thing as layer 8 makes.
const (
	mostBytes  = 1<<31 - 1
	mostWithin = 1 << 17 // above the document's bound, and few enough for the stack

	// What is told here is at most what a thing takes.
	termBytes = 100 // without its constant
	nodeBytes = 100
	nameBytes = 16
)

// canBeGoneThrough asks whether terms are within the document's bound.
func canBeGoneThrough(l []api.Core) bool {
	left := mostBytes
	for i := range l {
		if !takes(&l[i], mostWithin, &left) {
			return false
		}
	}
	return true
}

// takes takes the bytes of a term off those that are left, and asks whether they were enough.
func takes(c *api.Core, within int, left *int) bool {
	*left -= termBytes + nodeBytes*datum.Nodes(c.Datum) + nameBytes*len(c.Names)
	if within == 0 || *left < 0 {
		return false
	}
	for i := range c.Parts {
		if !takes(&c.Parts[i], within-1, left) {
			return false
		}
	}
	for i := range c.Clauses {
		if !takes(&c.Clauses[i].Body, within-1, left) {
			return false
		}
	}
	return true
}
