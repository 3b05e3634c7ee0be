package calc

import (
	"arithmancy/api"
	"arithmancy/large"
)

// halfBits is half of the binary digits of the longest number.
const halfBits = 16 * api.MaxWords

// Wide is an integer that may be longer than a number: high 2^halfBits + low.
type Wide struct {
	high, low api.Int
}

// split returns a number in two halves, the lower one of which is not negative.
func (c *Calc) split(a api.Int) Wide {
	high := c.shift(a, -halfBits)
	return Wide{high, c.Sub(a, c.shift(high, halfBits))}
}

// shift returns a times 2^n.
func (c *Calc) shift(a api.Int, n int) api.Int { return c.Keep(large.Shift(a, n)) }

// Dot returns the sum of the products, as long as no number of a has more than about half of the digits of the longest one; those of b may have all.
func (c *Calc) Dot(a, b []api.Int) Wide {
	var sum Wide
	for i := range a {
		w := c.split(b[i])
		sum.high = c.Add(sum.high, c.Mul(a[i], w.high))
		sum.low = c.Add(sum.low, c.Mul(a[i], w.low))
	}
	return sum
}

// Difference returns w - v.
func (c *Calc) Difference(w, v Wide) Wide {
	return Wide{c.Sub(w.high, v.high), c.Sub(w.low, v.low)}
}

// carried returns the same integer with a lower half that is one.
func (c *Calc) carried(w Wide) Wide {
	v := c.split(w.low)
	return Wide{c.Add(w.high, v.high), v.low}
}

// IsZeroWide reports whether w is 0.
func (c *Calc) IsZeroWide(w Wide) bool {
	v := c.carried(w)
	return IsZero(v.high) && IsZero(v.low)
}

// Divided returns w divided by d, and whether there is no rest.
func (c *Calc) Divided(w Wide, d api.Int) (api.Int, bool) {
	v := c.carried(w)
	high, rest := c.Quotient(v.high, d), c.Rest(v.high, d)
	left := c.Add(c.shift(rest, halfBits), v.low)
	if !IsZero(c.Rest(left, d)) {
		return api.Int{}, false
	}
	return c.Add(c.shift(high, halfBits), c.Quotient(left, d)), true
}
