package none

import (
	"iter"

	"arithmancy/api"
	"arithmancy/large"
)

// step is how numbers for one variable are put into a polynomial: the coefficient i is multiplied by a power, and added to another coefficient of the polynomial in the variables that are left.
type step struct {
	exps, to []int
	size     int // how many coefficients that polynomial has
	most     int // the greatest exponent
}

// exponents is a list of exponents as a key.
type exponents [api.MaxVars]uint8

// plan returns a step for each variable, in order. The steps do not depend on the numbers; so all that can be done but once is done here.
func plan(p api.Poly) []step {
	var left [][]int
	for _, t := range p.Terms {
		left = append(left, t.Exps)
	}
	var steps []step
	for range p.Vars {
		var s step
		var tails [][]int
		index := map[exponents]int{}
		for _, exps := range left {
			var key exponents
			for i, e := range exps[1:] {
				key[i] = uint8(e)
			}
			if _, met := index[key]; !met {
				index[key] = len(tails)
				tails = append(tails, exps[1:])
			}
			s.exps, s.to = append(s.exps, exps[0]), append(s.to, index[key])
			s.most = max(s.most, exps[0])
		}
		s.size = len(tails)
		steps, left = append(steps, s), tails
	}
	return steps
}

// walker walks over all lists of numbers.
type walker struct {
	steps        []step
	modulus, end int
	point        []int
	coefs        [][]int // those that are left, after each step
	powers       [][]int // of the number that is put in at each step
	yield        func(point []int, value int) bool
}

// values yields all lists of numbers from 0 to end - 1 for the variables (compared from the first number on), each with the rest of the value modulo m, which is less than 2^31. The list is valid until the next one.
func values(p api.Poly, m, end int) iter.Seq2[[]int, int] {
	return func(yield func(point []int, value int) bool) {
		w := &walker{steps: plan(p), modulus: m, end: end, point: make([]int, p.Vars), yield: yield}
		var coefs []int
		for _, t := range p.Terms {
			coefs = append(coefs, rest(t.Coef, m))
		}
		for _, s := range w.steps {
			w.coefs = append(w.coefs, make([]int, s.size))
			w.powers = append(w.powers, make([]int, s.most+1))
		}
		w.walk(0, coefs)
	}
}

// rest returns the rest of a number.
func rest(a api.Int, m int) int {
	_, r, _ := large.Div(a, large.Of(m))
	n, _ := large.Small(r)
	return n
}

// walk puts numbers into a polynomial with these coefficients, from the variable i on; it reports whether to go on.
func (w *walker) walk(i int, coefs []int) bool {
	if i == len(w.steps) {
		value := 0
		for _, c := range coefs {
			value = c
		}
		return w.yield(w.point, value)
	}
	s, next, powers := w.steps[i], w.coefs[i], w.powers[i]
	for n := range w.end {
		w.point[i] = n
		power := 1 % w.modulus
		for e := range powers {
			powers[e] = power
			power = power * n % w.modulus
		}
		clear(next)
		for j, c := range coefs {
			to := s.to[j]
			next[to] = (next[to] + c*powers[s.exps[j]]) % w.modulus
		}
		if !w.walk(i+1, next) {
			return false
		}
	}
	return true
}
