// Package large is layer 1: exact integers of up to api.MaxWords words.
package large

import (
	"math/bits"

	"arithmancy/api"
)

// wordBits is how many binary digits a word has.
const wordBits = 32

// Valid reports whether a number is valid.
func Valid(a api.Int) bool {
	n := len(a.Words)
	if n == 0 {
		return !a.Neg
	}
	return n <= api.MaxWords && a.Words[n-1] != 0
}

// allValid reports whether all of some numbers are valid.
func allValid(list ...api.Int) bool {
	for _, a := range list {
		if !Valid(a) {
			return false
		}
	}
	return true
}

// number returns a number with a sign and an absolute value, which it keeps.
func number(neg bool, size []uint32) (api.Int, api.Errno) {
	size = trim(size)
	if len(size) > api.MaxWords {
		return api.Int{}, api.ErrSize
	}
	return api.Int{Neg: neg && len(size) > 0, Words: size}, api.OK
}

// Of returns an int as a number.
func Of(n int) api.Int {
	size := uint64(n)
	if n < 0 {
		size = -size
	}
	return api.Int{Neg: n < 0, Words: trim([]uint32{uint32(size), uint32(size >> wordBits)})}
}

// Small returns a number as an int.
func Small(a api.Int) (int, bool) {
	if !Valid(a) || len(a.Words) > 2 {
		return 0, false
	}
	size := uint64(0)
	for i, w := range a.Words {
		size |= uint64(w) << (wordBits * i)
	}
	const half = 1 << 63
	switch {
	case a.Neg && size <= half:
		return int(-size), true
	case !a.Neg && size < half:
		return int(size), true
	}
	return 0, false
}

// Cmp compares numbers.
func Cmp(a, b api.Int) (int, api.Errno) {
	if !allValid(a, b) {
		return 0, api.ErrForm
	}
	switch {
	case a.Neg && !b.Neg:
		return -1, api.OK
	case b.Neg && !a.Neg:
		return 1, api.OK
	case a.Neg:
		return compare(b.Words, a.Words), api.OK
	}
	return compare(a.Words, b.Words), api.OK
}

// Add adds numbers.
func Add(a, b api.Int) (api.Int, api.Errno) {
	if !allValid(a, b) {
		return api.Int{}, api.ErrForm
	}
	return sum(a, b)
}

// Sub subtracts numbers.
func Sub(a, b api.Int) (api.Int, api.Errno) {
	if !allValid(a, b) {
		return api.Int{}, api.ErrForm
	}
	return sum(a, api.Int{Neg: !b.Neg, Words: b.Words})
}

// sum adds numbers, of which 0 may have any sign.
func sum(a, b api.Int) (api.Int, api.Errno) {
	if a.Neg == b.Neg {
		return number(a.Neg, add(a.Words, b.Words))
	}
	if compare(a.Words, b.Words) < 0 {
		a, b = b, a
	}
	return number(a.Neg, subtract(a.Words, b.Words))
}

// Mul multiplies numbers.
func Mul(a, b api.Int) (api.Int, api.Errno) {
	if !allValid(a, b) {
		return api.Int{}, api.ErrForm
	}
	// A product has at least this many words, if no factor is 0.
	if len(a.Words) > 0 && len(b.Words) > 0 && len(a.Words)+len(b.Words)-1 > api.MaxWords {
		return api.Int{}, api.ErrSize
	}
	return number(a.Neg != b.Neg, multiply(a.Words, b.Words))
}

// Div divides numbers; the rest is not negative.
func Div(a, b api.Int) (api.Int, api.Int, api.Errno) {
	if !allValid(a, b) {
		return api.Int{}, api.Int{}, api.ErrForm
	}
	if len(b.Words) == 0 {
		return api.Int{}, api.Int{}, api.ErrArg
	}
	q, r := divide(a.Words, b.Words)
	if a.Neg && len(r) > 0 {
		q = add(q, []uint32{1})
		r = subtract(b.Words, r)
	}
	quotient, e := number(a.Neg != b.Neg, q)
	if e != api.OK {
		return api.Int{}, api.Int{}, e
	}
	rest, e := number(false, r)
	if e != api.OK {
		return api.Int{}, api.Int{}, e
	}
	return quotient, rest, api.OK
}

// Power returns a power.
func Power(a api.Int, n int) (api.Int, api.Errno) {
	if !Valid(a) {
		return api.Int{}, api.ErrForm
	}
	if n < 0 {
		return api.Int{}, api.ErrArg
	}
	if n == 0 {
		return Of(1), api.OK
	}
	size := Bits(a)
	if size <= 1 {
		return number(a.Neg && n%2 == 1, clone(a.Words))
	}
	if n >= api.MaxWords*wordBits {
		return api.Int{}, api.ErrSize
	}
	// From the highest digit of n on, no number in between is greater than the power.
	result := Of(1)
	for i := bits.Len(uint(n)) - 1; i >= 0; i-- {
		var e api.Errno
		if result, e = Mul(result, result); e != api.OK {
			return api.Int{}, e
		}
		if n>>i&1 == 0 {
			continue
		}
		if result, e = Mul(result, a); e != api.OK {
			return api.Int{}, e
		}
	}
	return result, api.OK
}

// Gcd returns the greatest common divisor g, and x and y with a x + b y = g.
func Gcd(a, b api.Int) (api.Int, api.Int, api.Int, api.Errno) {
	if !allValid(a, b) {
		return api.Int{}, api.Int{}, api.Int{}, api.ErrForm
	}
	g, x, y := common(a.Words, b.Words)
	// The numbers are at most a and b, or 1; so they are valid.
	divisor, _ := number(false, g)
	left, _ := number(x.Neg != a.Neg, x.Words)
	right, _ := number(y.Neg != b.Neg, y.Words)
	return divisor, left, right, api.OK
}

// Root returns the root of a number, rounded down, and whether it is one.
func Root(a api.Int) (api.Int, bool, api.Errno) {
	if !Valid(a) {
		return api.Int{}, false, api.ErrForm
	}
	if a.Neg {
		return api.Int{}, false, api.ErrArg
	}
	size := root(a.Words)
	r, e := number(false, size)
	return r, compare(multiply(size, size), a.Words) == 0, e
}

// Bits returns the number of binary digits.
func Bits(a api.Int) int {
	if !Valid(a) {
		return 0
	}
	return digits(a.Words)
}

// Shift multiplies by a power of 2, or divides by one.
func Shift(a api.Int, n int) (api.Int, api.Errno) {
	if !Valid(a) {
		return api.Int{}, api.ErrForm
	}
	size := Bits(a)
	switch {
	case size == 0:
		return api.Int{}, api.OK
	case n >= 0:
		if n > api.MaxWords*wordBits-size {
			return api.Int{}, api.ErrSize
		}
		return number(a.Neg, shiftUp(a.Words, n))
	case n < -size:
		n = -size
	}
	low := shiftDown(a.Words, -n)
	if a.Neg && compare(shiftUp(low, -n), a.Words) != 0 {
		low = add(low, []uint32{1})
	}
	return number(a.Neg, low)
}

// Under reports whether each binary digit of a number is at most that of another one.
func Under(a, b api.Int) (bool, api.Errno) {
	if !allValid(a, b) {
		return false, api.ErrForm
	}
	if a.Neg || b.Neg {
		return false, api.ErrArg
	}
	if len(a.Words) > len(b.Words) {
		return false, api.OK
	}
	for i, w := range a.Words {
		if w&^b.Words[i] != 0 {
			return false, api.OK
		}
	}
	return true, api.OK
}
