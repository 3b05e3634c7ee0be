package large

import (
	"cmp"
	"math/bits"
)

// The functions of this file compute with natural numbers: words, the lowest one first, the last of which is not 0. They neither change nor keep their arguments, except trim.

// trim cuts the zeros at the end, and the room behind, so that nothing that is appended later is shared.
func trim(a []uint32) []uint32 {
	n := len(a)
	for n > 0 && a[n-1] == 0 {
		n--
	}
	if n == 0 {
		return nil
	}
	return a[:n:n]
}

// clone returns new words with the same values.
func clone(a []uint32) []uint32 {
	b := make([]uint32, len(a))
	copy(b, a)
	return b
}

// digits returns the number of binary digits.
func digits(a []uint32) int {
	if len(a) == 0 {
		return 0
	}
	return wordBits*(len(a)-1) + bits.Len32(a[len(a)-1])
}

// compare returns -1, 0 or 1.
func compare(a, b []uint32) int {
	if len(a) != len(b) {
		return cmp.Compare(len(a), len(b))
	}
	for i := len(a) - 1; i >= 0; i-- {
		if a[i] != b[i] {
			return cmp.Compare(a[i], b[i])
		}
	}
	return 0
}

// add returns the sum.
func add(a, b []uint32) []uint32 {
	if len(a) < len(b) {
		a, b = b, a
	}
	c := make([]uint32, len(a)+1)
	copy(c, a)
	addTo(c, b)
	return trim(c)
}

// addTo adds b to the words c, which have room for the sum.
func addTo(c, b []uint32) {
	carry := uint64(0)
	for i := 0; i < len(b) || carry != 0; i++ {
		s := uint64(c[i]) + carry
		if i < len(b) {
			s += uint64(b[i])
		}
		c[i] = uint32(s)
		carry = s >> wordBits
	}
}

// subtract returns a less b, which is at most a.
func subtract(a, b []uint32) []uint32 {
	c := clone(a)
	takeFrom(c, b)
	return trim(c)
}

// takeFrom subtracts b from the words c, which are at least b.
func takeFrom(c, b []uint32) {
	borrow := uint32(0)
	for i := 0; i < len(b) || borrow != 0; i++ {
		w := uint32(0)
		if i < len(b) {
			w = b[i]
		}
		c[i], borrow = bits.Sub32(c[i], w, borrow)
	}
}

// shiftUp returns a times 2^n.
func shiftUp(a []uint32, n int) []uint32 {
	if len(a) == 0 {
		return nil
	}
	skip, by := n/wordBits, n%wordBits
	c := make([]uint32, len(a)+skip+1)
	carry := uint64(0)
	for i, w := range a {
		t := uint64(w)<<by | carry
		c[skip+i] = uint32(t)
		carry = t >> wordBits
	}
	c[skip+len(a)] = uint32(carry)
	return trim(c)
}

// shiftDown returns a divided by 2^n, rounded down.
func shiftDown(a []uint32, n int) []uint32 {
	skip, by := n/wordBits, n%wordBits
	if skip >= len(a) {
		return nil
	}
	c := make([]uint32, len(a)-skip)
	for i := range c {
		t := uint64(a[skip+i])
		if skip+i+1 < len(a) {
			t |= uint64(a[skip+i+1]) << wordBits
		}
		c[i] = uint32(t >> by)
	}
	return trim(c)
}
