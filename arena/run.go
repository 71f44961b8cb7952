package arena

import "distaff/api"

// run is the words from a place on, up to another one.
type run struct {
	at, end int
}

func (r run) left() int { return r.end - r.at }

// cut takes words off a run's beginning, and answers their place.
func (r *run) cut(n int) (int, bool) {
	if r.left() < n {
		return 0, false
	}
	at := r.at
	r.at += n
	return at, true
}

// Alloc: the place of some words.
func (a *Arena) Alloc(n int) (int, bool) {
	if n < 1 || n > api.BlockWords {
		return 0, false
	}
	if n > api.LineWords {
		if a.great.left() < n && !a.takeBlock(&a.great) {
			a.takeHole(&a.great, 0, n)
		}
		return a.great.cut(n)
	}
	if a.small.left() < n && a.takeHole(&a.small, a.next, n) {
		a.next = a.small.end
	}
	return a.small.cut(n)
}

// Fresh: the same, in a block of its own.
func (a *Arena) Fresh(n int) (int, bool) {
	if n < 1 || n > api.BlockWords {
		return 0, false
	}
	if a.copies.left() < n {
		a.takeBlock(&a.copies)
	}
	return a.copies.cut(n)
}

// takeBlock puts the last block of which no line is taken in a run's place, if there is one.
func (a *Arena) takeBlock(r *run) bool {
	for block := len(a.taken) - 1; block >= 0; block-- {
		if a.taken[block] == (lines{}) {
			at := block * api.BlockWords
			a.take(r, run{at, at + api.BlockWords})
			return true
		}
	}
	return false
}

// takeHole puts the first hole of n words or more in a run's place, if there is one from a place on.
// No hole reaches across next, since all lines ahead of that are taken: one that is found at it begins there.
func (a *Arena) takeHole(r *run, from, n int) bool {
	for at := from; at < len(a.words); {
		hole := a.untaken(at)
		if hole.left() >= n {
			a.take(r, hole)
			return true
		}
		at = max(hole.end, at+api.LineWords)
	}
	return false
}

// untaken is the words from a line's beginning on, up to the next line of its block that is taken.
func (a *Arena) untaken(at int) run {
	block := a.taken[at/api.BlockWords]
	r := run{at, at}
	for line := at % api.BlockWords / api.LineWords; line < blockLines && !block[line]; line++ {
		r.end += api.LineWords
	}
	return r
}

// take puts a run in another one's place, and makes its lines taken.
func (a *Arena) take(r *run, by run) {
	for at := by.at; at < by.end; at += api.LineWords {
		set(a.taken, at)
	}
	*r = by
}
