package linear

import (
	"arithmancy/api"
	"arithmancy/calc"
	"arithmancy/large"
)

// Express returns the multiples of a basis that make a solution.
func Express(a [][]api.Int, b []api.Int, s api.Lattice, x []api.Int) ([]api.Int, api.Errno) {
	if !isSystem(a, b) || !validLattice(s) || !calc.Valid(x) {
		return nil, api.ErrForm
	}
	zeros := make([]api.Int, len(b))
	if !s.Solvable || !solves(a, b, s.X) || !solves(a, b, x) {
		return nil, api.ErrArg
	}
	for _, v := range s.Basis {
		if !solves(a, zeros, v) {
			return nil, api.ErrArg
		}
	}
	if len(s.Basis) > len(x) {
		return nil, api.ErrNone
	}
	return multiples(s, x)
}

// validLattice reports whether all numbers are valid.
func validLattice(s api.Lattice) bool {
	for _, v := range s.Basis {
		if !calc.Valid(v) {
			return false
		}
	}
	return calc.Valid(s.X) && calc.Valid(s.Y) && large.Valid(s.Modulus)
}

// solves reports whether a x = b, also if the values are too large to be numbers.
func solves(a [][]api.Int, b, x []api.Int) bool {
	if len(x) != len(a[0]) {
		return false
	}
	c := &calc.Calc{}
	for i, row := range a {
		one := []api.Int{large.Of(1)}
		if !c.IsZeroWide(c.Difference(c.Dot(row, x), c.Dot(one, b[i:i+1]))) {
			return false
		}
	}
	return c.Err == api.OK
}

// multiples returns the multiples of at most len(x) lists that make x.
func multiples(s api.Lattice, x []api.Int) ([]api.Int, api.Errno) {
	c := &calc.Calc{}
	var turned rows
	for i := range x {
		turned = append(turned, column(s.Basis, i))
	}
	m := eliminate(c, turned, len(s.Basis))
	if c.Err != api.OK {
		return nil, c.Err
	}
	if len(m.free()) > 0 {
		return nil, api.ErrNone
	}
	list := make([]api.Int, len(s.Basis))
	e := api.OK
	for i, j := range m.pivots {
		// Each row by itself: one whose multiple is too large does not hide that there is none in another one.
		row := &calc.Calc{}
		rest := row.Difference(row.Dot(m.right(i), x), row.Dot(m.right(i), s.X))
		ok := false
		if j < 0 {
			ok = row.IsZeroWide(rest)
		} else {
			list[j], ok = row.Divided(rest, m.d)
		}
		switch {
		case row.Err != api.OK:
			e = row.Err
		case !ok:
			return nil, api.ErrNone
		}
	}
	if e != api.OK {
		return nil, e
	}
	return list, api.OK
}
