package heap_test

import (
	"fmt"
	"slices"
	"strconv"

	"distaff/api"
	"distaff/arena"
	"distaff/word"
)

// thing is an object by itself: a struct with a list, no words.
type thing struct {
	kind, pins int
	fields     []api.Word
	stands     int // the place of what stands for it; none, if nothing does
}

// none stands for no place, and for 0 and false where a place is told.
const none = -1

// second is a second heap, by the chapter's words: things by their places. An arena of its own tells it which places there are.
type second struct {
	places *arena.Arena
	things map[int]*thing
}

func makeSecond(blocks int) *second {
	return &second{arena.New(blocks), map[int]*thing{}}
}

// at is the thing that a word tells, if it does; elder ones that were moved aren't any more.
func (s *second) at(w api.Word) *thing {
	x := s.things[word.Value(w)]
	if word.Kind(w) != placeTag || x == nil || x.stands != none {
		return nil
	}
	return x
}

func (s *second) make(kind, n int) int {
	if kind < 0 || kind > 31 || n < 0 || n > 240 {
		return none
	}
	at, ok := s.places.Alloc(n + 1)
	if !ok {
		return none
	}
	x := &thing{kind: kind, stands: none}
	for range n {
		x.fields = append(x.fields, unset(kind))
	}
	s.things[at] = x
	return at
}

func (s *second) kind(w api.Word) int {
	if x := s.at(w); x != nil {
		return x.kind
	}
	return -1
}

func (s *second) size(w api.Word) int {
	if x := s.at(w); x != nil {
		return len(x.fields)
	}
	return -1
}

// get is a field, and whether it is there.
func (s *second) get(w api.Word, i int) (api.Word, bool) {
	if i < 0 || i >= s.size(w) {
		return 0, false
	}
	return s.at(w).fields[i], true
}

func (s *second) set(w api.Word, i int, v api.Word) bool {
	if i < 0 || i >= s.size(w) {
		return false
	}
	s.at(w).fields[i] = v
	return true
}

// pin is once more, or once less by -1.
func (s *second) pin(w api.Word, by int) bool {
	x := s.at(w)
	if x == nil || x.pins == 7 && by == 1 || x.pins == 0 && by == -1 {
		return false
	}
	x.pins += by
	return true
}

func (s *second) pinned(w api.Word) bool {
	x := s.at(w)
	return x != nil && x.pins > 0
}

func (s *second) move(w api.Word) int {
	x := s.at(w)
	if x == nil || x.pins > 0 {
		return none
	}
	at, ok := s.places.Fresh(len(x.fields) + 1)
	if !ok {
		return none
	}
	s.things[at] = &thing{kind: x.kind, fields: slices.Clone(x.fields), stands: none}
	x.stands = at
	return at
}

func (s *second) moved(w api.Word) int {
	if x := s.things[word.Value(w)]; x != nil && word.Kind(w) == placeTag {
		return x.stands
	}
	return none
}

// sweep keeps the things of some places.
func (s *second) sweep(kept []int) {
	things := map[int]*thing{}
	for _, at := range kept {
		things[at] = s.things[at]
		s.places.Mark(at, 1+len(s.things[at].fields))
	}
	s.things = things
	s.places.Sweep()
}

// words is a thing as it stands in an arena: its head is put together as a text of 0 and 1.
func (x *thing) words() []api.Word {
	text := fmt.Sprintf("%b%03b%05b110", len(x.fields), x.pins, x.kind)
	if x.stands != none {
		text = fmt.Sprintf("%b111", x.stands)
	}
	bits, err := strconv.ParseUint(text, 2, 64)
	if err != nil {
		panic(err)
	}
	return append([]api.Word{api.Word(bits)}, x.fields...)
}
