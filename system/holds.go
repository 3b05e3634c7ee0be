package system

import (
	"arithmancy/api"
	"arithmancy/calc"
	"arithmancy/large"
	"arithmancy/lucas"
	"arithmancy/poly"
)

// Holds reports whether a system holds.
func Holds(s api.System, xs []api.Int) (bool, api.Errno) {
	if !Valid(s) || !calc.Valid(xs) {
		return false, api.ErrForm
	}
	if len(xs) != s.Vars || !calc.Natural(xs) {
		return false, api.ErrArg
	}
	var c calc.Calc
	for _, l := range s.Links {
		v := values(&c, l, xs)
		if c.Err != api.OK {
			return false, c.Err
		}
		if !linkHolds(l.Kind, v) {
			return false, api.OK
		}
	}
	return true, api.OK
}

// values returns the values of the polynomials of a link.
func values(c *calc.Calc, l api.Link, xs []api.Int) []api.Int {
	var own []api.Int
	for _, v := range l.Vars {
		own = append(own, xs[v])
	}
	var list []api.Int
	for _, p := range l.Polys {
		list = append(list, c.Keep(poly.Eval(p, own)))
	}
	return list
}

// linkHolds reports whether a link of a kind holds with these values.
func linkHolds(kind int, v []api.Int) bool {
	switch kind {
	case api.LinkPsi:
		n, ok := large.Small(v[1])
		index, e := lucas.Index(v[0], v[2])
		return ok && n >= 1 && e == api.OK && index == n
	case api.LinkPower:
		return isPower(v[0], v[1], v[2])
	case api.LinkUnder:
		is, e := large.Under(v[0], v[1])
		return is && e == api.OK
	}
	return calc.IsZero(v[0])
}

// isPower reports whether c is b to the power e, for b from 1 on and e from 0 on. (The power may be too large to be a number; then it is not c.)
func isPower(b, e, c api.Int) bool {
	one := large.Of(1)
	if calc.Less(b, one) || e.Neg {
		return false
	}
	if calc.Equal(b, one) {
		return calc.Equal(c, one)
	}
	n, ok := large.Small(e)
	if !ok {
		return false
	}
	power, err := large.Power(b, n)
	return err == api.OK && calc.Equal(power, c)
}
