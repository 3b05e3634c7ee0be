// Package kit chains operations on polynomials. A Kit keeps the first error, after which every result is 0; so a formula can be written down as it is, and the error be looked at once.
package kit

import (
	"slices"

	"arithmancy/api"
	"arithmancy/calc"
	"arithmancy/large"
	"arithmancy/poly"
)

// Kit makes polynomials with Vars variables.
type Kit struct {
	Vars int
	Err  api.Errno
}

// Keep takes over the result of an operation and its error.
func (k *Kit) Keep(p api.Poly, e api.Errno) api.Poly {
	if k.Err == api.OK {
		k.Err = e
	}
	if k.Err != api.OK {
		return api.Poly{}
	}
	return p
}

// Int returns n as a polynomial.
func (k *Kit) Int(n int) api.Poly {
	return k.Keep(poly.Const(k.Vars, large.Of(n)))
}

// Var returns the variable i.
func (k *Kit) Var(i int) api.Poly {
	return k.Keep(poly.Var(k.Vars, i))
}

// Widen returns a polynomial with few variables as one of the kit's; ErrSize is kept, if there are too many.
func (k *Kit) Widen(p api.Poly) api.Poly {
	if k.Vars > api.MaxVars {
		return k.Keep(api.Poly{}, api.ErrSize)
	}
	return k.Keep(poly.Widen(p, k.Vars))
}

// Add returns the sum of polynomials, 0 if there are none.
func (k *Kit) Add(list ...api.Poly) api.Poly {
	return k.fold(poly.Add, k.Int(0), list)
}

// Sub returns p - q.
func (k *Kit) Sub(p, q api.Poly) api.Poly {
	return k.fold(poly.Sub, p, []api.Poly{q})
}

// Mul returns the product of polynomials, 1 if there are none.
func (k *Kit) Mul(list ...api.Poly) api.Poly {
	return k.fold(poly.Mul, k.Int(1), list)
}

// fold joins polynomials to p, one after the other.
func (k *Kit) fold(join func(p, q api.Poly) (api.Poly, api.Errno), p api.Poly, list []api.Poly) api.Poly {
	for _, q := range list {
		if k.Err == api.OK {
			p = k.Keep(join(p, q))
		}
	}
	if k.Err != api.OK {
		return api.Poly{}
	}
	return p
}

// Place returns p, which is valid, with the variable at[i] of so many in the place of the variable i; at is rising.
func Place(p api.Poly, vars int, at []int) api.Poly {
	q := api.Poly{Vars: vars}
	for _, t := range p.Terms {
		exps := make([]int, vars)
		for i, e := range t.Exps {
			exps[at[i]] = e
		}
		q.Terms = append(q.Terms, api.Term{Coef: calc.Copy(t.Coef), Exps: exps})
	}
	return q
}

// Copy returns the same polynomial in new memory.
func Copy(p api.Poly) api.Poly {
	q := api.Poly{Vars: p.Vars}
	for _, t := range p.Terms {
		q.Terms = append(q.Terms, api.Term{Coef: calc.Copy(t.Coef), Exps: slices.Clone(t.Exps)})
	}
	return q
}

// Link returns a link of valid polynomials in the variables of a system, with those variables that occur in them.
func Link(kind int, polys ...api.Poly) api.Link {
	l := api.Link{Kind: kind, Vars: Used(polys...)}
	for _, p := range polys {
		l.Polys = append(l.Polys, Pick(p, l.Vars))
	}
	return l
}

// Used returns the variables that occur in polynomials with the same variables, of which there is at least one.
func Used(polys ...api.Poly) []int {
	var vars []int
	for v := range polys[0].Vars {
		if slices.ContainsFunc(polys, func(p api.Poly) bool { return occurs(p, v) }) {
			vars = append(vars, v)
		}
	}
	return vars
}

// occurs reports whether a variable occurs in a polynomial.
func occurs(p api.Poly, v int) bool {
	return slices.ContainsFunc(p.Terms, func(t api.Term) bool { return t.Exps[v] > 0 })
}

// Pick returns a polynomial with only some of its variables; the others do not occur.
func Pick(p api.Poly, vars []int) api.Poly {
	q := api.Poly{Vars: len(vars)}
	for _, t := range p.Terms {
		exps := make([]int, len(vars))
		for i, v := range vars {
			exps[i] = t.Exps[v]
		}
		q.Terms = append(q.Terms, api.Term{Coef: calc.Copy(t.Coef), Exps: exps})
	}
	return q
}
