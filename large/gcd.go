package large

import (
	"math/bits"

	"arithmancy/api"
)

// common returns the greatest common divisor g of a and b, and x and y with a x + b y = g, with any sign of 0.
func common(a, b []uint32) (g []uint32, x, y api.Int) {
	if len(b) == 0 {
		x = Of(min(len(a), 1))
		return clone(a), x, y
	}
	g, x = euclid(a, b)
	product := multiply(a, x.Words)
	switch {
	case x.Neg:
		y.Words, _ = divide(add(product, g), b)
	case compare(product, g) < 0:
		// Then x is 0, and b is g.
		y.Words = []uint32{1}
	default:
		y.Neg = true
		y.Words, _ = divide(subtract(product, g), b)
	}
	return g, x, y
}

// euclid returns the greatest common divisor g of a and b, and x such that b divides a x - g.
func euclid(a, b []uint32) ([]uint32, api.Int) {
	// The factors of a that belong to the rests have signs in turn: only their sizes are kept.
	first, second := clone(a), clone(b)
	one, two := []uint32{1}, []uint32(nil)
	minus := false
	for len(second) > 0 {
		if s := stepsAtOnce(first, second); s.v0 != 0 {
			first, second = s.rests(first, second)
			one, two = s.factors(one, two)
			minus = minus != s.odd
			continue
		}
		q, r := divide(first, second)
		first, second = second, r
		one, two = two, add(one, multiply(q, two))
		minus = !minus
	}
	return first, api.Int{Neg: minus, Words: one}
}

// steps is what some steps of Euclid's algorithm do: a becomes u0 a - v0 b, b becomes v1 b - u1 a, or the opposite of both, if their number is odd.
type steps struct {
	u0, v0, u1, v1 uint64
	odd            bool
}

// stepsAtOnce returns the steps that are certain from the first 64 binary digits of a and of b; none (v0 is 0), if a is less than b. The factors are less than 2^32 (Lehmer, with the condition of Collins).
func stepsAtOnce(a, b []uint32) steps {
	if compare(a, b) < 0 {
		return steps{}
	}
	by := max(digits(a)-64, 0)
	x, y := firstDigits(a, by), firstDigits(b, by)
	s := steps{u1: 1, odd: true}
	u, v := uint64(0), uint64(1)
	for y >= v && x-y >= s.v1+v {
		q, r := x/y, x%y
		x, y = y, r
		s.u0, s.u1, u = s.u1, u, s.u1+q*u
		s.v0, s.v1, v = s.v1, v, s.v1+q*v
		s.odd = !s.odd
	}
	return s
}

// firstDigits returns a divided by 2^by, rounded down, of which at most 64 digits are left.
func firstDigits(a []uint32, by int) uint64 {
	top := uint64(0)
	for i, w := range shiftDown(a, by) {
		top |= uint64(w) << (wordBits * i)
	}
	return top
}

// rests does the steps.
func (s steps) rests(a, b []uint32) ([]uint32, []uint32) {
	if s.odd {
		return mixed(b, a, s.v0, s.u0, bits.Sub32), mixed(a, b, s.u1, s.v1, bits.Sub32)
	}
	return mixed(a, b, s.u0, s.v0, bits.Sub32), mixed(b, a, s.v1, s.u1, bits.Sub32)
}

// factors does the steps with the factors of a that belong to a and b, whose signs are opposite.
func (s steps) factors(one, two []uint32) ([]uint32, []uint32) {
	return mixed(one, two, s.u0, s.v0, bits.Add32), mixed(one, two, s.u1, s.v1, bits.Add32)
}

// at returns a word, or 0 behind the last one.
func at(a []uint32, i int) uint64 {
	if i < len(a) {
		return uint64(a[i])
	}
	return 0
}

// mixed returns u a + v b for bits.Add32, u a - v b, which must not be negative, for bits.Sub32; u and v are words.
func mixed(a, b []uint32, u, v uint64, join func(x, y, carry uint32) (uint32, uint32)) []uint32 {
	c := make([]uint32, max(len(a), len(b))+2)
	over, more, carry := uint64(0), uint64(0), uint32(0)
	for i := range c {
		s, t := u*at(a, i)+over, v*at(b, i)+more
		over, more = s>>wordBits, t>>wordBits
		c[i], carry = join(uint32(s), uint32(t), carry)
	}
	return trim(c)
}
