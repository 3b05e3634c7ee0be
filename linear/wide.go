package linear

import (
	"arithmancy/api"
	"arithmancy/calc"
	"arithmancy/large"
)

// halfBits is half of the binary digits of the longest number.
const halfBits = 16 * api.MaxWords

// wide is an integer that may be longer than a number: high 2^halfBits + low.
type wide struct {
	high, low api.Int
}

// split returns a number in two halves, the lower one of which is not negative.
func split(c *calc.Calc, a api.Int) wide {
	high := c.Keep(large.Shift(a, -halfBits))
	return wide{high, c.Sub(a, c.Keep(large.Shift(high, halfBits)))}
}

// wideDot returns the sum of the products.
func wideDot(c *calc.Calc, a, b []api.Int) wide {
	var sum wide
	for i := range a {
		w := split(c, b[i])
		sum.high = c.Add(sum.high, c.Mul(a[i], w.high))
		sum.low = c.Add(sum.low, c.Mul(a[i], w.low))
	}
	return sum
}

// less returns w - v.
func (w wide) less(c *calc.Calc, v wide) wide {
	return wide{c.Sub(w.high, v.high), c.Sub(w.low, v.low)}
}

// carried returns the same integer with a lower half that is one.
func (w wide) carried(c *calc.Calc) wide {
	v := split(c, w.low)
	return wide{c.Add(w.high, v.high), v.low}
}

// isZero reports whether w is 0.
func (w wide) isZero(c *calc.Calc) bool {
	v := w.carried(c)
	return calc.IsZero(v.high) && calc.IsZero(v.low)
}

// divided returns w divided by d, and whether there is no rest.
func (w wide) divided(c *calc.Calc, d api.Int) (api.Int, bool) {
	v := w.carried(c)
	high, rest := c.Quotient(v.high, d), c.Rest(v.high, d)
	left := c.Add(c.Keep(large.Shift(rest, halfBits)), v.low)
	if !divides(d, left) {
		return api.Int{}, false
	}
	return c.Add(c.Keep(large.Shift(high, halfBits)), c.Quotient(left, d)), true
}
