// Package limb is layer 1: see shared/doc/01-limb.md.
//
// Inside, lists are cut to TRIM ones as soon as they come in: the cut one still
// lies in the caller's memory, so it is read only, and what is answered is made
// anew.
package limb

import (
	"cmp"
	"iter"
	"math/bits"
	"slices"
	"strconv"
	"strings"

	"distaff/api"
)

const (
	maxDigits  = 700
	partDigits = 9          // the most of which every number fits in a limb
	partSize   = 1000000000 // 10 to the power of partDigits
)

// Trim: the same number without leading zeros.
func Trim(a []uint32) []uint32 {
	a = trimmed(a)
	return widened(a, len(a))
}

// Cmp: which of two is less.
func Cmp(a, b []uint32) int {
	a, b = trimmed(a), trimmed(b)
	if len(a) != len(b) {
		return cmp.Compare(len(a), len(b))
	}
	for i := range slices.Backward(a) {
		if a[i] != b[i] {
			return cmp.Compare(a[i], b[i])
		}
	}
	return 0
}

// Of: a number's limbs.
func Of(n uint64) []uint32 {
	return trimmed([]uint32{uint32(n), uint32(n >> 32)})
}

// Small: the number of limbs, if it is small.
func Small(a []uint32) (uint64, bool) {
	a = trimmed(a)
	if len(a) > 2 {
		return 0, false
	}
	return uint64(at(a, 1))<<32 | uint64(at(a, 0)), true
}

// Add: the sum.
func Add(a, b []uint32) ([]uint32, api.Errno) {
	a, b = trimmed(a), trimmed(b)
	if isBig(a) || isBig(b) {
		return nil, api.ErrBig
	}
	sum := widened(a, max(len(a), len(b))+1)
	addTo(sum, b)
	return bounded(sum)
}

// Sub: the difference.
func Sub(a, b []uint32) ([]uint32, bool) {
	a, b = trimmed(a), trimmed(b)
	if Cmp(a, b) < 0 {
		return nil, false
	}
	difference := make([]uint32, len(a))
	var borrow uint32
	for i := range len(a) {
		difference[i], borrow = bits.Sub32(a[i], at(b, i), borrow)
	}
	return trimmed(difference), true
}

// Mul: the product.
func Mul(a, b []uint32) ([]uint32, api.Errno) {
	a, b = trimmed(a), trimmed(b)
	if isBig(a) || isBig(b) {
		return nil, api.ErrBig
	}
	product := make([]uint32, len(a)+len(b))
	for i := range len(b) {
		product[i+len(a)] = addTimes(product[i:], a, b[i])
	}
	return bounded(product)
}

// Div: the quotient and the rest.
func Div(a, b []uint32) ([]uint32, []uint32, api.Errno) {
	a, b = trimmed(a), trimmed(b)
	switch {
	case isBig(a) || isBig(b):
		return nil, nil, api.ErrBig
	case len(b) == 0:
		return nil, nil, api.ErrZero
	case len(a) < len(b):
		return nil, Trim(a), api.OK
	}
	// With the divisor's highest bit set, a guess from the highest limbs is never far off: see takeOut.
	shift := bits.LeadingZeros32(b[len(b)-1])
	rest, divisor := shiftedUp(a, shift), trimmed(shiftedUp(b, shift))
	quotient := make([]uint32, len(a)-len(b)+1)
	for i := range slices.Backward(quotient) {
		quotient[i] = takeOut(rest[i:i+len(b)+1], divisor)
	}
	shiftDown(rest, shift)
	return trimmed(quotient), trimmed(rest), api.OK
}

// Text: the decimal digits.
func Text(a []uint32) string {
	a = trimmed(a)
	if isBig(a) {
		return ""
	}
	if len(a) == 0 {
		return "0"
	}
	var text strings.Builder
	for part := range parts(a) {
		digits := strconv.FormatUint(uint64(part), 10)
		if text.Len() > 0 {
			text.WriteString(strings.Repeat("0", partDigits-len(digits)))
		}
		text.WriteString(digits)
	}
	return text.String()
}

// Parse: the number of decimal digits.
func Parse(s string) ([]uint32, api.Errno) {
	if len(s) == 0 || len(s) > maxDigits {
		return nil, api.ErrText
	}
	var number []uint32
	for len(s) > 0 {
		n := (len(s)-1)%partDigits + 1 // only the first part may be a short one
		part, err := strconv.ParseUint(s[:n], 10, 32)
		if err != nil {
			return nil, api.ErrText
		}
		number = timesPlus(number, partSize, uint32(part))
		s = s[n:]
	}
	return bounded(number)
}

// trimmed is the TRIM list of the same number, in the same memory.
func trimmed(a []uint32) []uint32 {
	for len(a) > 0 && a[len(a)-1] == 0 {
		a = a[:len(a)-1]
	}
	return a
}

// isBig asks it of a TRIM list.
func isBig(a []uint32) bool {
	return len(a) > api.MaxLimbs
}

// bounded is how a reckoning ends whose outcome may be BIG.
func bounded(a []uint32) ([]uint32, api.Errno) {
	a = trimmed(a)
	if isBig(a) {
		return nil, api.ErrBig
	}
	return a, api.OK
}

// widened is the same number in n limbs of new memory.
func widened(a []uint32, n int) []uint32 {
	wide := make([]uint32, n)
	copy(wide, a)
	return wide
}

// at is a's limb in a place, where it has one: all others mean nothing.
func at(a []uint32, i int) uint32 {
	if i < 0 || i >= len(a) {
		return 0
	}
	return a[i]
}

// addTo adds b, which has no more limbs, to a, and answers what is carried beyond a.
func addTo(a, b []uint32) uint32 {
	var carry uint32
	for i := range len(a) {
		a[i], carry = bits.Add32(a[i], at(b, i), carry)
	}
	return carry
}

// addTimes adds b, n times, to as many of a's limbs, and answers what is carried beyond them.
func addTimes(a, b []uint32, n uint32) uint32 {
	var carry uint64
	for i := range len(b) {
		carry += uint64(b[i])*uint64(n) + uint64(a[i])
		a[i] = uint32(carry)
		carry >>= 32
	}
	return uint32(carry)
}

// subTimes takes b, n times, from a, which has one limb more, and answers what is lacking beyond a.
func subTimes(a, b []uint32, n uint32) uint32 {
	var carry uint64
	var borrow uint32
	for i := range len(a) {
		carry += uint64(at(b, i)) * uint64(n)
		a[i], borrow = bits.Sub32(a[i], uint32(carry), borrow)
		carry >>= 32
	}
	return borrow
}

// timesPlus multiplies a in its place, and adds to it.
func timesPlus(a []uint32, by, plus uint32) []uint32 {
	carry := uint64(plus)
	for i := range len(a) {
		carry += uint64(a[i]) * uint64(by)
		a[i] = uint32(carry)
		carry >>= 32
	}
	if carry > 0 {
		a = append(a, uint32(carry))
	}
	return a
}

// takeOut takes b from a as often as it is in it, and answers how often. a has
// one limb more, and is below b times 2 to the power of 32; b's highest bit is
// set. So the guess is too high by two at most, and never too low (Knuth, The
// Art of Computer Programming, 4.3.1, theorems A and B).
func takeOut(a, b []uint32) uint32 {
	n := len(b)
	high := uint64(a[n])<<32 | uint64(a[n-1])
	often := uint32(min(high/uint64(b[n-1]), 1<<32-1))
	for lacking := subTimes(a, b, often); lacking > 0; often-- {
		lacking -= addTo(a, b)
	}
	return often
}

// shiftedUp is a with all bits higher by n, below 32, in one limb more.
func shiftedUp(a []uint32, n int) []uint32 {
	up := make([]uint32, len(a)+1)
	for i := range len(up) {
		up[i] = at(a, i)<<n | at(a, i-1)>>(32-n)
	}
	return up
}

// shiftDown puts all bits of a lower by n, below 32.
func shiftDown(a []uint32, n int) {
	for i := range len(a) {
		a[i] = a[i]>>n | at(a, i+1)<<(32-n)
	}
}

// parts tells a's decimal digits from the highest part on, which is not 0.
func parts(a []uint32) iter.Seq[uint32] {
	return func(yield func(uint32) bool) {
		var low []uint32
		for rest := Trim(a); len(rest) > 0; rest = trimmed(rest) {
			low = append(low, divideBy(rest, partSize))
		}
		for _, part := range slices.Backward(low) {
			if !yield(part) {
				return
			}
		}
	}
}

// divideBy divides a in its place, and answers the rest.
func divideBy(a []uint32, n uint32) uint32 {
	var rest uint32
	for i := range slices.Backward(a) {
		a[i], rest = bits.Div32(rest, a[i], n)
	}
	return rest
}
