package heap

import (
	"distaff/api"
	"distaff/word"
)

// The tags that matter here. No value has the last two.
const (
	placeTag = 1
	headTag  = 6
	movedTag = 7
)

// How many bits the parts of a head have, from the lowest one on; the highest part has all that are left.
const (
	tagBits  = 3
	kindBits = 5
	pinBits  = 3
)

const (
	lastKind = 1<<kindBits - 1
	mostPins = 1<<pinBits - 1
)

// head is what an object's first word tells.
type head struct {
	kind, pins, size int
}

// noHead is told where no object is.
func noHead() head { return head{kind: -1, size: -1} }

// word is the word that tells a head.
func (x head) word() api.Word {
	return tagged(headTag, (x.size<<pinBits|x.pins)<<kindBits|x.kind)
}

// read is the head that a word tells.
func read(w api.Word) head {
	if word.Kind(w) != headTag {
		return noHead()
	}
	n := word.Value(w)
	return head{
		kind: n & lastKind,
		pins: n >> kindBits & mostPins,
		size: n >> (kindBits + pinBits),
	}
}

// tagged is the word of a tag, and of a number above it.
func tagged(tag api.Word, n int) api.Word { return api.Word(n)<<tagBits | tag }

// first is the word at a place; 0, which tells no head, if there is none.
func (h *Heap) first(w api.Word) api.Word {
	if word.Kind(w) != placeTag {
		return 0
	}
	first, _ := h.arena.Get(word.Value(w))
	return first
}

// head is that of the object that a word tells.
func (h *Heap) head(w api.Word) head { return read(h.first(w)) }

// setHead is for words that tell an object alone.
func (h *Heap) setHead(w api.Word, x head) { h.arena.Set(word.Value(w), x.word()) }
