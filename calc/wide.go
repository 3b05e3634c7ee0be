package calc

import (
	"arithmancy/api"
	"arithmancy/large"
)

// halfBits is half of the binary digits of the longest number.
const halfBits = 16 * api.MaxWords

// Wide is an integer that may be longer than a number: high 2^halfBits + low.
type Wide struct {
	high, low api.Int
}

// split returns a number in two halves with its sign. (If they were rounded down, the higher one of a negative number might, shifted back, be too long.)
func (c *Calc) split(a api.Int) Wide {
	size := Size(a)
	high := c.shift(size, -halfBits)
	w := Wide{high, c.Sub(size, c.shift(high, halfBits))}
	if a.Neg {
		return Wide{Negative(w.high), Negative(w.low)}
	}
	return w
}

// shift returns a times 2^n.
func (c *Calc) shift(a api.Int, n int) api.Int { return c.Keep(large.Shift(a, n)) }

// Dot returns the sum of the products, as long as no number of a has more than about half of the digits of the longest one; those of b may have all.
func (c *Calc) Dot(a, b []api.Int) Wide {
	var sum Wide
	for i := range a {
		w := c.split(b[i])
		sum.high = c.Add(sum.high, c.Mul(a[i], w.high))
		sum.low = c.Add(sum.low, c.Mul(a[i], w.low))
	}
	return sum
}

// Difference returns w - v.
func (c *Calc) Difference(w, v Wide) Wide {
	return Wide{c.Sub(w.high, v.high), c.Sub(w.low, v.low)}
}

// carried returns the same integer with a lower half that is one. If neither half is 0, both have the same sign.
func (c *Calc) carried(w Wide) Wide {
	v := c.split(w.low)
	v.high = c.Add(w.high, v.high)
	if IsZero(v.high) || IsZero(v.low) || v.high.Neg == v.low.Neg {
		return v
	}
	one := large.Of(1)
	if v.high.Neg {
		one = large.Of(-1)
	}
	return Wide{c.Sub(v.high, one), c.Add(v.low, c.shift(one, halfBits))}
}

// IsZeroWide reports whether w is 0.
func (c *Calc) IsZeroWide(w Wide) bool {
	v := c.carried(w)
	return IsZero(v.high) && IsZero(v.low)
}

// Divided returns w divided by d, and whether there is no rest. It divides without signs; so no part of the quotient is longer than the whole.
func (c *Calc) Divided(w Wide, d api.Int) (api.Int, bool) {
	v, by := c.carried(w), Size(d)
	high, low := Size(v.high), Size(v.low)
	left := c.Add(c.shift(c.Rest(high, by), halfBits), low)
	if !IsZero(c.Rest(left, by)) {
		return api.Int{}, false
	}
	q := c.Add(c.shift(c.Quotient(high, by), halfBits), c.Quotient(left, by))
	if (v.high.Neg || v.low.Neg) != d.Neg {
		q = Negative(q)
	}
	return q, true
}
