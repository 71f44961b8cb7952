package arena_test

import (
	"regexp"
	"strings"

	"distaff/api"
)

// second is a second arena, by the chapter's words: its lines are texts of signs, in which holes are found anew each time, and its runs are lists of places.
type second struct {
	words map[int]api.Word
	total int      // of words
	taken []string // of each block a text, a # for each line that is TAKEN
	marks map[int]bool
	small []int
	great []int
	fresh []int
	next  int
}

// makeSecond is one of so many blocks, from 1 to MaxBlocks.
func makeSecond(blocks int) *second {
	s := &second{words: map[int]api.Word{}, total: blocks * blockWords, marks: map[int]bool{}}
	for range blocks {
		s.taken = append(s.taken, dots)
	}
	return s
}

var dotted = regexp.MustCompile(`\.+`)

// holes is the words of each hole, in order.
func (s *second) holes() [][]int {
	var list [][]int
	for block, signs := range s.taken {
		for _, ends := range dotted.FindAllStringIndex(signs, -1) {
			var places []int
			for at := ends[0] * lineWords; at < ends[1]*lineWords; at++ {
				places = append(places, block*blockWords+at)
			}
			list = append(list, places)
		}
	}
	return list
}

// take makes the lines of a hole TAKEN.
func (s *second) take(hole []int) []int {
	for _, at := range hole {
		signs, line := s.taken[at/blockWords], at%blockWords/lineWords
		s.taken[at/blockWords] = signs[:line] + "#" + signs[line+1:]
	}
	return hole
}

// lastBlock is the words of the last block of which no line is TAKEN, if there is one.
func (s *second) lastBlock() []int {
	var last []int
	for _, hole := range s.holes() {
		if len(hole) == blockWords {
			last = hole
		}
	}
	return last
}

// first is the first hole of which something holds, if there is one.
func (s *second) first(holds func(hole []int) bool) []int {
	for _, hole := range s.holes() {
		if holds(hole) {
			return hole
		}
	}
	return nil
}

// off takes words off a run's beginning; none, if it has too few.
func off(run *[]int, n int) int {
	if len(*run) < n {
		return none
	}
	at := (*run)[0]
	*run = (*run)[n:]
	return at
}

func (s *second) alloc(n int) int {
	switch {
	case n < 1 || n > blockWords:
		return none
	case n <= lineWords && len(s.small) < n:
		hole := s.first(func(hole []int) bool { return hole[0] >= s.next })
		if hole != nil {
			s.small = s.take(hole)
			s.next = hole[len(hole)-1] + 1
		}
	case n > lineWords && len(s.great) < n:
		hole := s.lastBlock()
		if hole == nil {
			hole = s.first(func(hole []int) bool { return len(hole) >= n })
		}
		if hole != nil {
			s.great = s.take(hole)
		}
	}
	if n <= lineWords {
		return off(&s.small, n)
	}
	return off(&s.great, n)
}

func (s *second) copied(n int) int {
	if n < 1 || n > blockWords {
		return none
	}
	if len(s.fresh) < n {
		if hole := s.lastBlock(); hole != nil {
			s.fresh = s.take(hole)
		}
	}
	return off(&s.fresh, n)
}

// mark is of so few words that each can be looked at.
func (s *second) mark(at, n int) {
	for ; n > 0; n-- {
		if at >= 0 && at < s.total {
			s.marks[at/lineWords] = true
		}
		at++
	}
}

func (s *second) sweep() {
	for block := range s.taken {
		var signs strings.Builder
		for line := range blockLines {
			if s.marks[block*blockLines+line] {
				signs.WriteString("#")
			} else {
				signs.WriteString(".")
			}
		}
		s.taken[block] = signs.String()
	}
	s.marks, s.small, s.great, s.fresh, s.next = map[int]bool{}, nil, nil, nil, 0
}

// frees is how many lines of each block aren't TAKEN.
func (s *second) frees() []int {
	var list []int
	for _, signs := range s.taken {
		list = append(list, strings.Count(signs, "."))
	}
	return list
}

func (s *second) empty() int { return strings.Count(strings.Join(s.taken, "|"), dots) }
