package linear

import (
	"arithmancy/api"
	"arithmancy/calc"
	"arithmancy/large"
)

type rows [][]api.Int

// matrix is the rows of [A | I], turned by elimination into [L | E] with E A = L. Each pivot is d, and the only number of its column; rows without a pivot are 0 in L. All numbers are determinants of parts of [A | I], and so not large.
type matrix struct {
	rows
	width  int   // columns of L
	pivots []int // the column of the pivot of each row, or -1
	d      api.Int
}

// eliminate returns the matrix of A.
func eliminate(c *calc.Calc, a rows, width int) matrix {
	m := matrix{width: width, d: large.Of(1)}
	for i, row := range a {
		unit := make([]api.Int, len(a))
		unit[i] = large.Of(1)
		m.rows = append(m.rows, append(row[:len(row):len(row)], unit...))
		m.pivots = append(m.pivots, -1)
	}
	for j := range width {
		for i, row := range m.rows {
			if m.pivots[i] < 0 && !calc.IsZero(row[j]) {
				m.clear(c, i, j)
				break
			}
		}
	}
	return m
}

// clear makes the number in row p and column j the pivot of this row. The division by the pivot before leaves no rest.
func (m *matrix) clear(c *calc.Calc, p, j int) {
	pivot := m.rows[p][j]
	for i, row := range m.rows {
		if i == p {
			continue
		}
		m.rows[i] = zip(row, m.rows[p], func(x, y api.Int) api.Int {
			return c.Quotient(c.Sub(c.Mul(pivot, x), c.Mul(row[j], y)), m.d)
		})
	}
	m.pivots[p] = j
	m.d = pivot
}

// left returns a row of L, right one of E.
func (m *matrix) left(i int) []api.Int  { return m.rows[i][:m.width] }
func (m *matrix) right(i int) []api.Int { return m.rows[i][m.width:] }

// bound returns the rows that have a pivot.
func (m *matrix) bound() []int {
	var list []int
	for i, j := range m.pivots {
		if j >= 0 {
			list = append(list, i)
		}
	}
	return list
}

// free returns the columns that have no pivot.
func (m *matrix) free() []int {
	bound := make([]bool, m.width)
	for _, j := range m.pivots {
		if j >= 0 {
			bound[j] = true
		}
	}
	var list []int
	for j, is := range bound {
		if !is {
			list = append(list, j)
		}
	}
	return list
}

// hermite turns columns, a basis of a lattice with the determinant d, into another basis of it: the number i of column i is positive, those above it are 0, those to the left of it are less than it and not negative. As the lattice contains all multiples of d, everything may be computed modulo d, and, once i columns are done, modulo the determinant of what is left.
func hermite(c *calc.Calc, columns [][]api.Int, d api.Int) {
	for i := range columns {
		for j := i + 1; j < len(columns); j++ {
			meet(c, columns, i, j, d)
		}
		g, u, _, e := large.Gcd(columns[i][i], d)
		g = c.Keep(g, e)
		columns[i] = modulo(c, columns[i], d, func(x api.Int) api.Int { return c.Mul(u, x) })
		columns[i][i] = g
		d = c.Quotient(d, g)
		for j := range i {
			q := c.Quotient(columns[j][i], g)
			columns[j] = zip(columns[j], columns[i], func(x, y api.Int) api.Int { return c.Sub(x, c.Mul(q, y)) })
		}
		for j := range i + 1 {
			below := modulo(c, columns[j][i+1:], d, func(x api.Int) api.Int { return x })
			copy(columns[j][i+1:], below)
		}
	}
}

// meet makes the number i of column j 0, and that of column i the greatest common divisor of both, modulo d.
func meet(c *calc.Calc, columns [][]api.Int, i, j int, d api.Int) {
	p, q := columns[i][i], columns[j][i]
	g, u, v, e := large.Gcd(p, q)
	if c.Keep(g, e); calc.IsZero(g) {
		return
	}
	p, q = c.Quotient(p, g), c.Quotient(q, g)
	one := zip(columns[i], columns[j], func(x, y api.Int) api.Int {
		return c.Rest(c.Add(c.Mul(u, x), c.Mul(v, y)), d)
	})
	two := zip(columns[i], columns[j], func(x, y api.Int) api.Int {
		return c.Rest(c.Sub(c.Mul(p, y), c.Mul(q, x)), d)
	})
	columns[i], columns[j] = one, two
}

// modulo returns the rests modulo d of f of the numbers.
func modulo(c *calc.Calc, list []api.Int, d api.Int, f func(x api.Int) api.Int) []api.Int {
	var out []api.Int
	for _, x := range list {
		out = append(out, c.Rest(f(x), d))
	}
	return out
}
