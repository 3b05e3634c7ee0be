package linear

import (
	"arithmancy/api"
	"arithmancy/calc"
	"arithmancy/large"
)

// solver is a system on its way to be solved. The rows that have a pivot, and the equations x_j = x_j for the columns that have none, are a square matrix M with the determinant d or -d: so M x is a point of a lattice of this determinant, and x is determined by it.
type solver struct {
	calc.Calc
	a     rows
	b     []api.Int
	m     matrix
	bound []int       // the rows with a pivot
	free  []int       // the columns without one
	basis [][]api.Int // of the points M x, for all x
}

// Solve solves a system.
func Solve(a [][]api.Int, b []api.Int) (api.Lattice, api.Errno) {
	if !isSystem(a, b) {
		return api.Lattice{}, api.ErrForm
	}
	s := &solver{a: a, b: b}
	s.m = eliminate(&s.Calc, a, len(a[0]))
	s.bound, s.free = s.m.bound(), s.m.free()
	result := s.solve()
	if s.Err != api.OK {
		return api.Lattice{}, s.Err
	}
	return result, api.OK
}

// solve returns the solutions or a reason.
func (s *solver) solve() api.Lattice {
	for i := range s.a {
		if s.m.pivots[i] < 0 && !calc.IsZero(dot(&s.Calc, s.m.right(i), s.b)) {
			return api.Lattice{Y: calc.CopyAll(s.m.right(i))}
		}
	}
	for j := range s.a[0] {
		s.basis = append(s.basis, s.column(j))
	}
	hermite(&s.Calc, s.basis, calc.Size(s.m.d))
	point := make([]api.Int, len(s.basis))
	for i := range s.basis {
		if !s.fit(point, i) {
			return s.reason(i)
		}
	}
	result := api.Lattice{Solvable: true, X: s.numbers(point)}
	for _, column := range s.basis[len(s.bound):] {
		result.Basis = append(result.Basis, s.numbers(column))
	}
	return result
}

// column returns a column of M.
func (s *solver) column(j int) []api.Int {
	var list []api.Int
	for _, i := range s.bound {
		list = append(list, s.a[i][j])
	}
	for _, free := range s.free {
		unit := 0
		if free == j {
			unit = 1
		}
		list = append(list, large.Of(unit))
	}
	return list
}

// fit adds a multiple of column i of the basis to the point, after which the number i of the point is right, and those before it are as they were. It reports whether there is one. The numbers that belong to free columns are only made small.
func (s *solver) fit(point []api.Int, i int) bool {
	column := s.basis[i]
	missing := calc.Negative(point[i])
	if i < len(s.bound) {
		missing = s.Sub(s.b[s.bound[i]], point[i])
		if !divides(column[i], missing) {
			return false
		}
	} else {
		missing = s.Sub(s.Rest(point[i], column[i]), point[i])
	}
	q := s.Quotient(missing, column[i])
	copy(point, zip(point, column, func(x, y api.Int) api.Int { return s.Add(x, s.Mul(q, y)) }))
	return true
}

// numbers returns the x that belongs to the point M x.
func (s *solver) numbers(point []api.Int) []api.Int {
	x := make([]api.Int, len(point))
	for k, j := range s.free {
		x[j] = calc.Copy(point[len(s.bound)+k])
	}
	for _, i := range s.bound {
		sum := api.Int{}
		for k, row := range s.bound {
			sum = s.Add(sum, s.Mul(s.m.right(i)[row], point[k]))
		}
		for _, j := range s.free {
			sum = s.Sub(sum, s.Mul(s.m.left(i)[j], x[j]))
		}
		x[s.m.pivots[i]] = s.Quotient(sum, s.m.d)
	}
	return x
}

// reason returns why the number i of the point can't be right: factors for the first rows of M, by which the columns of the basis become 0, but column i the modulus.
func (s *solver) reason(i int) api.Lattice {
	factors := make([]api.Int, i+1)
	factors[i] = large.Of(1)
	modulus := s.basis[i][i]
	for j := i - 1; j >= 0; j-- {
		sum := api.Int{}
		for k := j + 1; k <= i; k++ {
			sum = s.Add(sum, s.Mul(factors[k], s.basis[j][k]))
			factors[k] = s.Mul(factors[k], s.basis[j][j])
		}
		factors[j] = calc.Negative(sum)
		modulus = s.Mul(modulus, s.basis[j][j])
	}
	// A common divisor is not needed.
	common := modulus
	for _, f := range factors {
		g, _, _, e := large.Gcd(common, f)
		common = s.Keep(g, e)
	}
	result := api.Lattice{Y: make([]api.Int, len(s.a)), Modulus: s.Quotient(modulus, common)}
	for k, f := range factors {
		result.Y[s.bound[k]] = s.Rest(s.Quotient(f, common), result.Modulus)
	}
	return result
}
