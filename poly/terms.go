package poly

import (
	"cmp"
	"slices"

	"arithmancy/api"
	"arithmancy/calc"
)

// degree returns the degree of a term with these exponents.
func degree(exps []int) int {
	sum := 0
	for _, e := range exps {
		sum += e
	}
	return sum
}

// compareTerms is greater than 0, if a comes before b.
func compareTerms(a, b api.Term) int {
	if c := cmp.Compare(degree(a.Exps), degree(b.Exps)); c != 0 {
		return c
	}
	return slices.Compare(a.Exps, b.Exps)
}

// copyTerm returns the same term in new memory.
func copyTerm(t api.Term) api.Term {
	return api.Term{Coef: calc.Copy(t.Coef), Exps: slices.Clone(t.Exps)}
}

// merge joins the terms of two valid polynomials by large.Add or large.Sub.
func merge(p, q api.Poly, join func(a, b api.Int) (api.Int, api.Errno)) (api.Poly, api.Errno) {
	sum := api.Poly{Vars: p.Vars}
	left, right := p.Terms, q.Terms
	for len(left)+len(right) > 0 {
		order := 0
		switch {
		case len(right) == 0:
			order = 1
		case len(left) == 0:
			order = -1
		default:
			order = compareTerms(left[0], right[0])
		}
		var a, b api.Int
		var exps []int
		if order >= 0 {
			a, exps = left[0].Coef, left[0].Exps
			left = left[1:]
		}
		if order <= 0 {
			b, exps = right[0].Coef, right[0].Exps
			right = right[1:]
		}
		c, e := join(a, b)
		if e != api.OK {
			return api.Poly{}, e
		}
		if !calc.IsZero(c) {
			sum.Terms = append(sum.Terms, api.Term{Coef: c, Exps: slices.Clone(exps)})
		}
	}
	if len(sum.Terms) > api.MaxTerms {
		return api.Poly{}, api.ErrSize
	}
	return sum, api.OK
}
