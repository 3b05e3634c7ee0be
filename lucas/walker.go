package lucas

import (
	"iter"
	"math/bits"

	"arithmancy/api"
	"arithmancy/calc"
	"arithmancy/large"
)

// computation keeps the first error, and does the same with every number that it comes to.
type computation struct {
	calc.Calc
	each func(a api.Int) api.Int
}

// walker walks along psi.
type walker struct {
	computation
	a, twice api.Int
}

// exact returns a walker that comes to the elements themselves.
func exact(a api.Int) *walker {
	w := &walker{a: a}
	w.twice = w.Add(a, a)
	w.each = func(a api.Int) api.Int { return a }
	return w
}

// modulo returns a walker that comes to their rests.
func modulo(a, m api.Int) *walker {
	w := &walker{}
	w.each = func(a api.Int) api.Int { return w.Rest(a, m) }
	w.a = w.each(a)
	w.twice = w.each(w.Add(w.a, w.a))
	return w
}

// next returns the element after two others.
func (w *walker) next(before, now api.Int) api.Int {
	return w.each(w.Sub(w.Mul(w.twice, now), before))
}

// rests yields n and psi(n) from n = 1 on; it does not end.
func (w *walker) rests() iter.Seq2[int, api.Int] {
	return func(yield func(n int, rest api.Int) bool) {
		before, now := w.each(large.Of(0)), w.each(large.Of(1))
		for n := 1; yield(n, now); n++ {
			before, now = now, w.next(before, now)
		}
	}
}

// at returns psi(n) and psi(n + 1).
func (w *walker) at(n int) (api.Int, api.Int) {
	low, high := w.each(large.Of(0)), w.each(large.Of(1))
	for i := bits.Len(uint(n)) - 1; i >= 0; i-- {
		low, high = w.even(low, high), w.odd(low, high)
		if n>>i&1 == 1 {
			low, high = high, w.next(low, high)
		}
	}
	return low, high
}

// even returns psi(2m) of psi(m) and psi(m + 1): psi(m) times the difference of its neighbours.
func (w *walker) even(low, high api.Int) api.Int {
	before := w.Sub(w.Mul(w.twice, low), high)
	return w.each(w.Mul(low, w.Sub(high, before)))
}

// odd returns psi(2m + 1) of psi(m) and psi(m + 1): the difference of their squares, written so that nothing in between is greater.
func (w *walker) odd(low, high api.Int) api.Int {
	return w.each(w.Mul(w.Sub(high, low), w.Add(high, low)))
}

// chiOf returns chi(n) of psi(n) and psi(n + 1).
func (w *walker) chiOf(low, high api.Int) api.Int {
	return w.each(w.Sub(high, w.Mul(w.a, low)))
}

// psi returns psi(n), for n from 2 on. No number in between is greater than it: so an error means that it is too large.
func (w *walker) psi(n int) api.Int {
	low, high := w.at(n / 2)
	if n%2 == 0 {
		return w.even(low, high)
	}
	return w.odd(low, high)
}

// chi returns chi(n), for n from 2 on: chi(2m) = 2 chi(m)^2 - 1, and chi(2m + 1) = 2 chi(m) chi(m + 1) - a. No number in between is greater than it, as the doubling comes last.
func (w *walker) chi(n int) api.Int {
	low, high := w.at(n / 2)
	one := w.chiOf(low, high)
	two, less := one, large.Of(1)
	if n%2 == 1 {
		two, less = w.Sub(w.Mul(w.a, high), low), w.a
	}
	product := w.Mul(one, two)
	return w.Add(product, w.Sub(product, less))
}

// result returns a number as the result of a function.
func (w *walker) result(a api.Int) (api.Int, api.Errno) {
	if w.Err != api.OK {
		return api.Int{}, w.Err
	}
	return a, api.OK
}
