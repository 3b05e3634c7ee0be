package large

import "math/bits"

// divide returns the quotient and the rest; b is not 0.
func divide(a, b []uint32) ([]uint32, []uint32) {
	if compare(a, b) < 0 {
		return nil, clone(a)
	}
	if len(b) == 1 {
		q := clone(a)
		r := divideByWord(q, b[0])
		return trim(q), trim([]uint32{r})
	}
	// The first digit of a quotient is guessed from the first two words of the divisor; the guess is good if the highest binary digit of the divisor is 1.
	by := bits.LeadingZeros32(b[len(b)-1])
	divisor := shiftUp(b, by)
	rest := make([]uint32, len(a)+1)
	copy(rest, shiftUp(a, by))
	q := make([]uint32, len(a)-len(b)+1)
	for i := len(q) - 1; i >= 0; i-- {
		q[i] = divideOnce(rest[i:i+len(b)+1], divisor)
	}
	return trim(q), shiftDown(trim(rest), by)
}

// divideByWord divides the words a, and returns the rest.
func divideByWord(a []uint32, w uint32) uint32 {
	rest := uint64(0)
	for i := len(a) - 1; i >= 0; i-- {
		t := rest<<wordBits | uint64(a[i])
		a[i] = uint32(t / uint64(w))
		rest = t % uint64(w)
	}
	return uint32(rest)
}

// divideOnce subtracts from rest, which has a word more than b, the greatest multiple of b, and returns the factor, which is a word.
func divideOnce(rest, b []uint32) uint32 {
	factor := guess(rest, b)
	carry, borrow := uint64(0), uint32(0)
	for j, w := range b {
		t := factor*uint64(w) + carry
		carry = t >> wordBits
		rest[j], borrow = bits.Sub32(rest[j], uint32(t), borrow)
	}
	n := len(b)
	rest[n], borrow = bits.Sub32(rest[n], uint32(carry), borrow)
	if borrow != 0 {
		factor--
		giveBack(rest, b)
	}
	return uint32(factor)
}

// guess returns the factor, or one more.
func guess(rest, b []uint32) uint64 {
	n := len(b)
	top := uint64(rest[n])<<wordBits | uint64(rest[n-1])
	factor, left := top/uint64(b[n-1]), top%uint64(b[n-1])
	for factor>>wordBits != 0 || factor*uint64(b[n-2]) > left<<wordBits|uint64(rest[n-2]) {
		factor--
		left += uint64(b[n-1])
		if left>>wordBits != 0 {
			break
		}
	}
	return factor
}

// giveBack adds b to rest, which is less than 0 by at most b; the carry at the end meets the borrow.
func giveBack(rest, b []uint32) {
	carry := uint32(0)
	for j, w := range b {
		rest[j], carry = bits.Add32(rest[j], w, carry)
	}
	rest[len(b)] += carry
}

// root returns the greatest number whose square is at most a.
func root(a []uint32) []uint32 {
	size := digits(a)
	if size == 0 {
		return nil
	}
	// A start that is not less than the root, with about half of its digits right.
	start := shiftUp([]uint32{1}, (size+1)/2)
	if by := size / 4; by >= wordBits {
		start = shiftUp(add(root(shiftDown(a, 2*by)), []uint32{1}), by)
	}
	// From above, each step comes closer, until it is there.
	for {
		q, _ := divide(a, start)
		next := shiftDown(add(start, q), 1)
		if compare(next, start) >= 0 {
			return start
		}
		start = next
	}
}
