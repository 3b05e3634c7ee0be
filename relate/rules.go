package relate

import (
	"arithmancy/api"
	"arithmancy/calc"
	"arithmancy/kit"
	"arithmancy/large"
)

// rule is what is done with atoms of a kind. The values, or the polynomials, are those of A, B and M, as many as the kind uses; z is the further variables.
type rule struct {
	polys, further int
	holds          func(v [3]api.Int) bool
	compile        func(k *kit.Kit, p [3]api.Poly, z []api.Poly) api.Poly
	witness        func(c *calc.Calc, v [3]api.Int) []api.Int
}

// rules returns the rules of atoms, by their kinds.
func rules() [api.FAnd]rule {
	return [api.FAnd]rule{
		api.FEq:     equalRule(),
		api.FLe:     atMostRule(),
		api.FLt:     lessRule(),
		api.FNe:     otherRule(),
		api.FDiv:    dividesRule(),
		api.FMod:    moduloRule(),
		api.FSquare: squareRule(),
		api.FPrime:  primeRule(),
	}
}

// equalRule: A - B = 0.
func equalRule() rule {
	return rule{
		polys: 2,
		holds: func(v [3]api.Int) bool { return calc.Equal(v[0], v[1]) },
		compile: func(k *kit.Kit, p [3]api.Poly, z []api.Poly) api.Poly {
			return k.Sub(p[0], p[1])
		},
		witness: func(c *calc.Calc, v [3]api.Int) []api.Int { return nil },
	}
}

// atMostRule: A + z - B = 0.
func atMostRule() rule {
	return rule{
		polys: 2, further: 1,
		holds: func(v [3]api.Int) bool { return !calc.Less(v[1], v[0]) },
		compile: func(k *kit.Kit, p [3]api.Poly, z []api.Poly) api.Poly {
			return k.Sub(k.Add(p[0], z[0]), p[1])
		},
		witness: func(c *calc.Calc, v [3]api.Int) []api.Int {
			return []api.Int{c.Sub(v[1], v[0])}
		},
	}
}

// lessRule: A + z + 1 - B = 0.
func lessRule() rule {
	return rule{
		polys: 2, further: 1,
		holds: func(v [3]api.Int) bool { return calc.Less(v[0], v[1]) },
		compile: func(k *kit.Kit, p [3]api.Poly, z []api.Poly) api.Poly {
			return k.Sub(k.Add(p[0], z[0], k.Int(1)), p[1])
		},
		witness: func(c *calc.Calc, v [3]api.Int) []api.Int {
			// In this order, nothing in between is too large if the result is not.
			return []api.Int{c.Sub(c.Sub(v[1], large.Of(1)), v[0])}
		},
	}
}

// otherRule: (A - B)^2 - z - 1 = 0.
func otherRule() rule {
	return rule{
		polys: 2, further: 1,
		holds: func(v [3]api.Int) bool { return !calc.Equal(v[0], v[1]) },
		compile: func(k *kit.Kit, p [3]api.Poly, z []api.Poly) api.Poly {
			d := k.Sub(p[0], p[1])
			return k.Sub(k.Mul(d, d), k.Add(z[0], k.Int(1)))
		},
		witness: func(c *calc.Calc, v [3]api.Int) []api.Int {
			// The square of d alone might be too large.
			d := c.Sub(v[0], v[1])
			return []api.Int{c.Mul(c.Sub(d, large.Of(1)), c.Add(d, large.Of(1)))}
		},
	}
}

// dividesRule: A (y - z) - B = 0.
func dividesRule() rule {
	return rule{
		polys: 2, further: 2,
		holds: func(v [3]api.Int) bool { return divides(v[0], v[1]) },
		compile: func(k *kit.Kit, p [3]api.Poly, z []api.Poly) api.Poly {
			return k.Sub(k.Mul(p[0], k.Sub(z[0], z[1])), p[1])
		},
		witness: func(c *calc.Calc, v [3]api.Int) []api.Int {
			return parts(quotient(c, v[1], v[0]))
		},
	}
}

// moduloRule: M (y - z) - A + B = 0.
func moduloRule() rule {
	return rule{
		polys: 3, further: 2,
		holds: func(v [3]api.Int) bool { return same(v[0], v[1], v[2]) },
		compile: func(k *kit.Kit, p [3]api.Poly, z []api.Poly) api.Poly {
			return k.Sub(k.Mul(p[2], k.Sub(z[0], z[1])), k.Sub(p[0], p[1]))
		},
		witness: func(c *calc.Calc, v [3]api.Int) []api.Int {
			// The rests are the same. (The difference itself might be too large.)
			return parts(c.Sub(quotient(c, v[0], v[2]), quotient(c, v[1], v[2])))
		},
	}
}

// squareRule: A - z z = 0.
func squareRule() rule {
	return rule{
		polys: 1, further: 1,
		holds: func(v [3]api.Int) bool {
			_, is, e := large.Root(v[0])
			return is && e == api.OK
		},
		compile: func(k *kit.Kit, p [3]api.Poly, z []api.Poly) api.Poly {
			return k.Sub(p[0], k.Mul(z[0], z[0]))
		},
		witness: func(c *calc.Calc, v [3]api.Int) []api.Int {
			r, _, e := large.Root(v[0])
			return []api.Int{c.Keep(r, e)}
		},
	}
}

// primeRule: A (y - z) + B (u - v) - 1 = 0.
func primeRule() rule {
	return rule{
		polys: 2, further: 4,
		holds: func(v [3]api.Int) bool {
			g, _, _, e := large.Gcd(v[0], v[1])
			return e == api.OK && calc.Equal(g, large.Of(1))
		},
		compile: func(k *kit.Kit, p [3]api.Poly, z []api.Poly) api.Poly {
			left := k.Mul(p[0], k.Sub(z[0], z[1]))
			right := k.Mul(p[1], k.Sub(z[2], z[3]))
			return k.Sub(k.Add(left, right), k.Int(1))
		},
		witness: func(c *calc.Calc, v [3]api.Int) []api.Int {
			_, x, y, e := large.Gcd(v[0], v[1])
			return append(parts(c.Keep(x, e)), parts(c.Keep(y, e))...)
		},
	}
}

// divides reports whether a divides b; 0 divides only 0.
func divides(a, b api.Int) bool {
	if calc.IsZero(a) {
		return calc.IsZero(b)
	}
	_, r, e := large.Div(b, a)
	return e == api.OK && calc.IsZero(r)
}

// same reports whether m divides a - b. (The difference itself might be too large.)
func same(a, b, m api.Int) bool {
	if calc.IsZero(m) {
		return calc.Equal(a, b)
	}
	_, r, e := large.Div(a, m)
	_, s, f := large.Div(b, m)
	return e == api.OK && f == api.OK && calc.Equal(r, s)
}

// quotient returns a divided by b, rounded so that the rest is not negative; 0 if b is 0.
func quotient(c *calc.Calc, a, b api.Int) api.Int {
	if calc.IsZero(b) {
		return api.Int{}
	}
	return c.Quotient(a, b)
}

// parts returns two natural numbers with this difference.
func parts(a api.Int) []api.Int {
	if a.Neg {
		return []api.Int{{}, calc.Size(a)}
	}
	return []api.Int{a, {}}
}
