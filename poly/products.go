package poly

import (
	"slices"

	"arithmancy/api"
	"arithmancy/calc"
)

// fewProducts is how many products of terms are joined at a time, if they can be split into blocks.
const fewProducts = 5000

// pair is the terms of two factors.
type pair struct {
	left, right []api.Term
}

// maker makes a sum of products, block by block, in the order of its terms; so one that has too many terms is noticed early.
type maker struct {
	calc.Calc
	sum api.Poly
}

// products returns the sum of the products of the pairs, in all of which there are so many variables.
func products(vars int, pairs []pair) (api.Poly, api.Errno) {
	m := maker{sum: api.Poly{Vars: vars}}
	m.add(pairs, 0)
	if m.Err != api.OK {
		return api.Poly{}, m.Err
	}
	return m.sum, api.OK
}

// mark returns the number by which terms are sorted at a level: first the degree, then one exponent after the other. That of a product is the sum of those of its factors.
func mark(t api.Term, level int) int {
	if level == 0 {
		return degree(t.Exps)
	}
	return t.Exps[level-1]
}

// add adds the products of pairs, all of which have the same marks at the levels below.
func (m *maker) add(pairs []pair, level int) {
	if m.Err != api.OK {
		return
	}
	if level > m.sum.Vars || count(pairs) <= fewProducts {
		m.join(pairs)
		return
	}
	blocks := make([][]pair, 2*api.MaxDegree+1)
	for _, p := range pairs {
		right := sortIn(p.right, level)
		for i, left := range sortIn(p.left, level) {
			for j, other := range right {
				if len(left) > 0 && len(other) > 0 {
					blocks[i+j] = append(blocks[i+j], pair{left, other})
				}
			}
		}
	}
	for _, block := range slices.Backward(blocks) {
		if len(block) > 0 {
			m.add(block, level+1)
		}
	}
}

// count returns how many products of terms there are.
func count(pairs []pair) int {
	n := 0
	for _, p := range pairs {
		n += len(p.left) * len(p.right)
	}
	return n
}

// sortIn sorts terms into lists by their marks.
func sortIn(terms []api.Term, level int) [][]api.Term {
	var lists [][]api.Term
	for _, t := range terms {
		n := mark(t, level)
		for len(lists) <= n {
			lists = append(lists, nil)
		}
		lists[n] = append(lists[n], t)
	}
	return lists
}

// exponents is a list of exponents as a key; each is at most twice the greatest degree.
type exponents [api.MaxVars]uint8

// join adds the products of pairs, which come behind all terms that there are.
func (m *maker) join(pairs []pair) {
	joined := map[exponents]api.Int{}
	for _, p := range pairs {
		for _, a := range p.left {
			for _, b := range p.right {
				var key exponents
				for i := range a.Exps {
					key[i] = uint8(a.Exps[i] + b.Exps[i])
				}
				joined[key] = m.Add(joined[key], m.Mul(a.Coef, b.Coef))
			}
		}
	}
	var terms []api.Term
	for key, a := range joined {
		if calc.IsZero(a) {
			continue
		}
		exps := make([]int, m.sum.Vars)
		for i := range exps {
			exps[i] = int(key[i])
		}
		terms = append(terms, api.Term{Coef: a, Exps: exps})
	}
	slices.SortFunc(terms, func(a, b api.Term) int { return compareTerms(b, a) })
	m.sum.Terms = append(m.sum.Terms, terms...)
	m.limit(terms)
}

// limit keeps an error, if there are too many terms, or new ones of too great a degree.
func (m *maker) limit(terms []api.Term) {
	if m.Err == api.OK && (len(m.sum.Terms) > api.MaxTerms || len(terms) > 0 && degree(terms[0].Exps) > api.MaxDegree) {
		m.Err = api.ErrSize
	}
}
