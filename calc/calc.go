// Package calc chains operations on numbers. A Calc keeps the first error, after which every result is 0; so a formula can be written down as it is, and the error be looked at once.
package calc

import (
	"arithmancy/api"
	"arithmancy/large"
)

// Calc is a computation; its zero value is ready for use.
type Calc struct {
	Err api.Errno
}

// Keep takes over the result of an operation and its error.
func (c *Calc) Keep(a api.Int, e api.Errno) api.Int {
	if c.Err == api.OK {
		c.Err = e
	}
	if c.Err != api.OK {
		return api.Int{}
	}
	return a
}

// Add returns a + b.
func (c *Calc) Add(a, b api.Int) api.Int { return c.two(large.Add, a, b) }

// Sub returns a - b.
func (c *Calc) Sub(a, b api.Int) api.Int { return c.two(large.Sub, a, b) }

// Mul returns a b.
func (c *Calc) Mul(a, b api.Int) api.Int { return c.two(large.Mul, a, b) }

// Quotient returns a divided by b, rounded so that the rest is not negative.
func (c *Calc) Quotient(a, b api.Int) api.Int {
	return c.two(func(a, b api.Int) (api.Int, api.Errno) {
		q, _, e := large.Div(a, b)
		return q, e
	}, a, b)
}

// Rest returns the rest of a modulo b.
func (c *Calc) Rest(a, b api.Int) api.Int {
	return c.two(func(a, b api.Int) (api.Int, api.Errno) {
		_, r, e := large.Div(a, b)
		return r, e
	}, a, b)
}

// Power returns a to the power n.
func (c *Calc) Power(a api.Int, n int) api.Int {
	if c.Err != api.OK {
		return api.Int{}
	}
	return c.Keep(large.Power(a, n))
}

// two does an operation with two numbers, unless there was an error.
func (c *Calc) two(f func(a, b api.Int) (api.Int, api.Errno), a, b api.Int) api.Int {
	if c.Err != api.OK {
		return api.Int{}
	}
	return c.Keep(f(a, b))
}

// IsZero reports whether a number is 0.
func IsZero(a api.Int) bool { return len(a.Words) == 0 }

// Negative returns -a.
func Negative(a api.Int) api.Int {
	return api.Int{Neg: !a.Neg && !IsZero(a), Words: Copy(a).Words}
}

// Size returns |a|.
func Size(a api.Int) api.Int { return api.Int{Words: Copy(a).Words} }

// Copy returns the same number in new memory.
func Copy(a api.Int) api.Int {
	if IsZero(a) {
		return api.Int{Neg: a.Neg}
	}
	b := api.Int{Neg: a.Neg, Words: make([]uint32, len(a.Words))}
	copy(b.Words, a.Words)
	return b
}

// CopyAll returns the same numbers in new memory.
func CopyAll(list []api.Int) []api.Int {
	var out []api.Int
	for _, a := range list {
		out = append(out, Copy(a))
	}
	return out
}

// Valid reports whether all numbers of a list are valid.
func Valid(list []api.Int) bool {
	for _, a := range list {
		if !large.Valid(a) {
			return false
		}
	}
	return true
}

// Natural reports whether no number of a list is negative.
func Natural(list []api.Int) bool {
	for _, a := range list {
		if a.Neg {
			return false
		}
	}
	return true
}

// Equal reports whether two valid numbers are the same.
func Equal(a, b api.Int) bool {
	order, e := large.Cmp(a, b)
	return e == api.OK && order == 0
}

// Less reports whether a is less than b; both are valid.
func Less(a, b api.Int) bool {
	order, e := large.Cmp(a, b)
	return e == api.OK && order < 0
}
