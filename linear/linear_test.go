package linear

import (
	"math/rand"
	"reflect"
	"testing"

	"arithmancy/api"
	"arithmancy/calc"
	"arithmancy/large"
)

func list(ns ...int) []api.Int {
	var xs []api.Int
	for _, n := range ns {
		xs = append(xs, large.Of(n))
	}
	return xs
}

func power(n int) api.Int {
	a, _ := large.Shift(large.Of(1), n)
	return a
}

func random(r *rand.Rand, bits int) api.Int {
	a := api.Int{}
	for range bits {
		a, _ = large.Add(a, a)
		a, _ = large.Add(a, large.Of(r.Intn(2)))
	}
	if r.Intn(2) == 0 {
		return calc.Negative(a)
	}
	return a
}

// times returns a x.
func times(a [][]api.Int, x []api.Int) []api.Int {
	var b []api.Int
	for _, row := range a {
		b = append(b, dot(&calc.Calc{}, row, x))
	}
	return b
}

// randomMatrix returns rows, some of which depend on others, or have common divisors.
func randomMatrix(r *rand.Rand, rows, columns, bits int) [][]api.Int {
	var a [][]api.Int
	for i := range rows {
		var row []api.Int
		for range columns {
			row = append(row, random(r, r.Intn(bits+1)))
		}
		if i > 0 && r.Intn(4) == 0 {
			other := a[r.Intn(i)]
			for j := range row {
				row[j], _ = large.Mul(other[j], large.Of(r.Intn(5)-2))
			}
		}
		a = append(a, row)
	}
	return a
}

// check checks what Solve returns, and returns it.
func check(t *testing.T, a [][]api.Int, b []api.Int) api.Lattice {
	t.Helper()
	s, e := Solve(a, b)
	if e != api.OK {
		t.Fatal(e)
	}
	numbers := append(append([]api.Int{s.Modulus}, s.X...), s.Y...)
	for _, v := range s.Basis {
		numbers = append(numbers, v...)
		if is, e := Holds(a, make([]api.Int, len(b)), v); !is || e != api.OK {
			t.Fatal("not in the basis", a, v)
		}
	}
	for _, n := range numbers {
		if !large.Valid(n) || len(n.Words) > 1000 {
			t.Fatal("a number is not valid or too long")
		}
	}
	if s.Solvable {
		if is, e := Holds(a, b, s.X); !is || e != api.OK || len(s.Y)+len(s.Modulus.Words) > 0 {
			t.Fatal("not a solution", a, b, s)
		}
		return s
	}
	if is, e := Refutes(a, b, s.Y, s.Modulus); !is || e != api.OK || len(s.X)+len(s.Basis) > 0 {
		t.Fatal("not a reason", a, b, s)
	}
	return s
}

// P5.1: decided. P5.2: all.
func TestDecided(t *testing.T) {
	r := rand.New(rand.NewSource(1))
	solvable := 0
	for range 1500 {
		rows, columns := 1+r.Intn(4), 1+r.Intn(4)
		a := randomMatrix(r, rows, columns, 3)
		if check(t, a, randomMatrix(r, 1, rows, 3)[0]).Solvable {
			solvable++
		}
		x := randomMatrix(r, 1, columns, 5)[0]
		checkAll(t, a, times(a, x), x)
	}
	if solvable < 100 || solvable > 1400 {
		t.Error(solvable)
	}
}

// checkAll checks that a solution is found, and expressed.
func checkAll(t *testing.T, a [][]api.Int, b, x []api.Int) {
	t.Helper()
	s := check(t, a, b)
	if !s.Solvable {
		t.Fatal("there is a solution", a, b, x)
	}
	multiples, e := Express(a, b, s, x)
	if e != api.OK || len(multiples) != len(s.Basis) {
		t.Fatal("not expressed", a, b, x, e)
	}
	c := &calc.Calc{}
	sum := s.X
	for i, v := range s.Basis {
		sum = zip(sum, v, func(p, q api.Int) api.Int { return c.Add(p, c.Mul(multiples[i], q)) })
	}
	if !reflect.DeepEqual(sum, append([]api.Int{}, x...)) {
		t.Fatal("expressed otherwise", a, b, x, multiples)
	}
}

func TestLargeSystems(t *testing.T) {
	r := rand.New(rand.NewSource(2))
	for round := range 40 {
		rows, columns := 1+r.Intn(8), 1+r.Intn(8)
		if round < 8 {
			rows, columns = 8, 8-round%3
		}
		a := randomMatrix(r, rows, columns, 190)
		for i := range a {
			for j := range a[i] {
				if r.Intn(3) > 0 || round%2 == 0 {
					a[i][j] = random(r, 200)
				}
			}
		}
		check(t, a, randomMatrix(r, 1, rows, 200)[0])
		small := randomMatrix(r, rows, columns, 150)
		x := randomMatrix(r, 1, columns, 40)[0]
		checkAll(t, small, times(small, x), x)
	}
	// All determinants are as large as they can be, and divisors abound.
	most, _ := large.Sub(power(200), large.Of(1))
	var a [][]api.Int
	for i := range 8 {
		var row []api.Int
		for j := range 8 {
			n := most
			if popcount(i&j)%2 == 1 {
				n = calc.Negative(n)
			}
			row = append(row, n)
		}
		a = append(a, row)
	}
	check(t, a, list(1, 2, 3, 4, 5, 6, 7, 8))
	x := list(1, -2, 3, -4, 5, -6, 7, 0)
	half := a
	for i := range half {
		for j := range half[i] {
			half[i][j], _ = large.Shift(half[i][j], -10)
		}
	}
	checkAll(t, half, times(half, x), x)
}

func popcount(n int) int {
	if n == 0 {
		return 0
	}
	return n&1 + popcount(n>>1)
}

// P5.3: reason. No small numbers are a solution where there is a reason.
func TestReason(t *testing.T) {
	r := rand.New(rand.NewSource(3))
	for range 300 {
		a := randomMatrix(r, 2, 2, 2)
		b := randomMatrix(r, 1, 2, 2)[0]
		solvable := check(t, a, b).Solvable
		for x := -6; x <= 6; x++ {
			for y := -6; y <= 6; y++ {
				is, _ := Holds(a, b, list(x, y))
				if is && !solvable {
					t.Fatal(a, b, x, y)
				}
			}
		}
		for range 20 {
			y, m := list(r.Intn(7)-3, r.Intn(7)-3), large.Of(r.Intn(5))
			if is, _ := Refutes(a, b, y, m); is && solvable {
				t.Fatal(a, b, y, m)
			}
		}
	}
}

// P5.4: rows.
func TestRows(t *testing.T) {
	r := rand.New(rand.NewSource(4))
	for range 200 {
		a := randomMatrix(r, 3, 3, 3)
		x := randomMatrix(r, 1, 3, 4)[0]
		b := times(a, x)
		a[0], a[1], b[0], b[1] = a[1], a[0], b[1], b[0]
		c := &calc.Calc{}
		a[2] = zip(a[2], a[0], c.Add)
		b[2] = c.Add(b[2], b[0])
		factor := large.Of(r.Intn(5) - 7)
		a[1] = zip(a[1], a[1], func(p, _ api.Int) api.Int { return c.Mul(factor, p) })
		b[1] = c.Mul(factor, b[1])
		checkAll(t, a, b, x)
	}
}

func TestExamples(t *testing.T) {
	a, b := [][]api.Int{list(2, 4)}, list(3)
	if s := check(t, a, b); !reflect.DeepEqual(s.Y, list(1)) || !reflect.DeepEqual(s.Modulus, large.Of(2)) {
		t.Error(s)
	}
	a, b = [][]api.Int{list(1, 1), list(1, 1)}, list(1, 2)
	if s := check(t, a, b); s.Solvable || len(s.Modulus.Words) > 0 {
		t.Error(s)
	}
	a, b = [][]api.Int{list(3, 5)}, list(1)
	s := check(t, a, b)
	if !s.Solvable || len(s.Basis) != 1 {
		t.Error(s)
	}
	checkAll(t, a, b, list(2, -1))
	zero := [][]api.Int{list(0, 0)}
	checkAll(t, zero, list(0), list(5, -7))
	if check(t, zero, list(3)).Solvable {
		t.Error("0 = 3")
	}
}

func TestHoldsAndRefutes(t *testing.T) {
	a, b := [][]api.Int{list(1, 2), list(0, 3)}, list(5, 6)
	for _, l := range []struct {
		x    []api.Int
		want bool
		e    api.Errno
	}{
		{list(1, 2), true, api.OK}, {list(1, 1), false, api.OK}, {list(3, 1), false, api.OK}, {list(1), false, api.ErrArg}, {list(1, 2, 0), false, api.ErrArg}, {nil, false, api.ErrArg}, {[]api.Int{{Neg: true}, {}}, false, api.ErrForm},
		// The second value is too large, the first one only wrong.
		{[]api.Int{{}, power(131071)}, false, api.ErrSize},
	} {
		if is, e := Holds(a, b, l.x); is != l.want || e != l.e {
			t.Error(l, is, e)
		}
	}
	a, b = [][]api.Int{list(2, 4), list(4, 8)}, list(3, 7)
	for _, l := range []struct {
		y    []api.Int
		m    int
		want bool
		e    api.Errno
	}{
		{list(1, 0), 2, true, api.OK}, {list(1, 0), 4, false, api.OK}, {list(-2, 1), 0, true, api.OK}, {list(1, 1), 2, false, api.OK}, {list(0, 0), 0, false, api.OK}, {list(1, 0), 1, false, api.OK}, {list(1, 0), -2, false, api.ErrArg}, {list(1), 2, false, api.ErrArg},
	} {
		if is, e := Refutes(a, b, l.y, large.Of(l.m)); is != l.want || e != l.e {
			t.Error(l, is, e)
		}
	}
	if _, e := Refutes(a, b, list(1, 0), api.Int{Neg: true}); e != api.ErrForm {
		t.Error(e)
	}
	if is, e := Refutes(a, b, []api.Int{{}, power(131071)}, large.Of(2)); e != api.ErrSize || is {
		t.Error(is, e)
	}
}

func TestExpress(t *testing.T) {
	a, b := [][]api.Int{list(1, 1, 1)}, list(6)
	s := api.Lattice{Solvable: true, X: list(1, 2, 3), Basis: [][]api.Int{list(1, -1, 0), list(0, 2, -2)}}
	x := list(3, 2, 1)
	if m, e := Express(a, b, s, x); e != api.OK || !reflect.DeepEqual(m, list(2, 1)) {
		t.Error(m, e)
	}
	with := func(change func(s *api.Lattice)) api.Lattice {
		c := s
		change(&c)
		return c
	}
	bad := api.Int{Words: []uint32{0}}
	for name, l := range map[string]struct {
		s api.Lattice
		x []api.Int
		e api.Errno
	}{
		"half a multiple": {s, list(1, 3, 2), api.ErrNone},
		"no solution":     {s, list(1, 1, 1), api.ErrArg},
		"too few":         {s, list(3, 3), api.ErrArg},
		"bad x":           {s, []api.Int{bad}, api.ErrForm},
		"not solvable":    {with(func(s *api.Lattice) { s.Solvable = false }), x, api.ErrArg},
		"X":               {with(func(s *api.Lattice) { s.X = list(1, 1, 1) }), x, api.ErrArg},
		"no X":            {with(func(s *api.Lattice) { s.X = nil }), x, api.ErrArg},
		"basis":           {with(func(s *api.Lattice) { s.Basis = [][]api.Int{list(1, 0, 0)} }), x, api.ErrArg},
		"short basis":     {with(func(s *api.Lattice) { s.Basis = [][]api.Int{list(1, -1)} }), x, api.ErrArg},
		"dependent":       {with(func(s *api.Lattice) { s.Basis = append(s.Basis, list(1, 1, -2)) }), x, api.ErrNone},
		"many":            {with(func(s *api.Lattice) { s.Basis = append(s.Basis, s.Basis...) }), x, api.ErrNone},
		"zeros":           {with(func(s *api.Lattice) { s.Basis = [][]api.Int{list(0, 0, 0)} }), list(1, 2, 3), api.ErrNone},
		"outside":         {with(func(s *api.Lattice) { s.Basis = s.Basis[:1] }), x, api.ErrNone},
		"no basis":        {with(func(s *api.Lattice) { s.Basis = nil }), x, api.ErrNone},
		"bad number in Y": {with(func(s *api.Lattice) { s.Y = []api.Int{bad} }), x, api.ErrForm},
		"bad modulus":     {with(func(s *api.Lattice) { s.Modulus = bad }), x, api.ErrForm},
		"bad basis":       {with(func(s *api.Lattice) { s.Basis = [][]api.Int{{bad}} }), x, api.ErrForm},
		"too large x":     {s, []api.Int{power(131071), power(131071), power(131071)}, api.ErrArg},
	} {
		if m, e := Express(a, b, l.s, l.x); e != l.e || len(m) > 0 {
			t.Error(name, m, e)
		}
	}
	none := with(func(s *api.Lattice) { s.Basis = nil })
	if m, e := Express(a, b, none, none.X); e != api.OK || len(m) > 0 {
		t.Error(m, e)
	}
}

// A sum on the way is too large to be a number, but the multiples are not.
func TestExpressWide(t *testing.T) {
	a, b := [][]api.Int{list(3, 5, 7)}, list(0)
	s := check(t, a, b)
	big := power(131060)
	x := []api.Int{dot(&calc.Calc{}, list(5, 7), []api.Int{big, big}), calc.Negative(dot(&calc.Calc{}, list(3), []api.Int{big})), calc.Negative(dot(&calc.Calc{}, list(3), []api.Int{big}))}
	m, e := Express(a, b, s, x)
	if e != api.OK || len(m) != 2 {
		t.Fatal(e)
	}
	most := power(131071)
	far := api.Lattice{Solvable: true, X: []api.Int{most, calc.Negative(most)}, Basis: [][]api.Int{{power(60000), calc.Negative(power(60000))}}}
	m, e = Express([][]api.Int{list(1, 1)}, list(0), far, []api.Int{calc.Negative(most), most})
	if e != api.OK || !reflect.DeepEqual(m, []api.Int{calc.Negative(power(71072))}) {
		t.Error(m, e)
	}
	far.Basis = [][]api.Int{list(1, -1)}
	if m, e = Express([][]api.Int{list(1, 1)}, list(0), far, []api.Int{calc.Negative(most), most}); e != api.ErrSize || len(m) > 0 {
		t.Error(e)
	}
}

// turned returns numbers, or their opposites.
func turned(list []api.Int, opposite bool) []api.Int {
	var out []api.Int
	for _, a := range list {
		if opposite {
			a = calc.Negative(a)
		}
		out = append(out, a)
	}
	return out
}

// Numbers of the greatest length, with both signs, are solutions like others.
func TestExpressLongest(t *testing.T) {
	c := &calc.Calc{}
	longest := c.Add(power(131071), c.Sub(power(131071), large.Of(1)))
	other := calc.Negative(longest)
	for _, l := range []struct {
		a, b     []api.Int
		x, basis []api.Int
		point    []api.Int
		want     []api.Int
		e        api.Errno
	}{
		{list(0), list(0), list(0), list(1), []api.Int{longest}, []api.Int{longest}, api.OK},
		{list(0), list(0), []api.Int{longest}, list(1), []api.Int{longest}, list(0), api.OK},
		{list(0), list(0), list(0), []api.Int{longest}, list(0), list(0), api.OK},
		{list(0), list(0), list(0), []api.Int{longest}, []api.Int{longest}, list(1), api.OK},
		{list(0), list(0), list(0), []api.Int{longest}, []api.Int{other}, list(-1), api.OK},
		{list(0), list(0), list(0), []api.Int{longest}, list(5), nil, api.ErrNone},
		{list(0), list(0), []api.Int{other}, list(2), []api.Int{longest}, []api.Int{longest}, api.OK},
		{list(0), list(0), []api.Int{other}, list(-2), []api.Int{longest}, []api.Int{other}, api.OK},
		{list(0), list(0), []api.Int{other}, list(4), []api.Int{longest}, nil, api.ErrNone},
		{list(0), list(0), []api.Int{other}, list(1), []api.Int{longest}, nil, api.ErrSize},
		{list(1, 1), list(0), list(0, 0), list(1, -1), []api.Int{longest, other}, []api.Int{longest}, api.OK},
		{list(1, 1), list(0), list(0, 0), list(1, -1), []api.Int{longest, longest}, nil, api.ErrArg},
		{list(1, 1), list(1), []api.Int{longest, calc.Negative(c.Sub(longest, large.Of(1)))}, list(-1, 1), list(1, 0), []api.Int{c.Sub(longest, large.Of(1))}, api.OK},
	} {
		for _, signs := range [][2]bool{{false, false}, {false, true}, {true, false}, {true, true}} {
			turn, basis := signs[0], signs[1]
			s := api.Lattice{Solvable: true, X: turned(l.x, turn), Basis: [][]api.Int{turned(l.basis, basis)}}
			m, e := Express([][]api.Int{l.a}, turned(l.b, turn), s, turned(l.point, turn))
			if e != l.e || len(m) != len(l.want) || len(m) > 0 && !calc.Equal(m[0], turned(l.want, turn != basis)[0]) {
				t.Error(large.Bits(l.x[0]), large.Bits(l.basis[0]), signs, e)
			}
		}
	}
	if c.Err != api.OK {
		t.Error(c.Err)
	}
}

// One multiple is too large, another one is no integer, or the point is not in the plane of the basis: ErrNone comes first (R2).
func TestExpressNoneBeforeSize(t *testing.T) {
	c := &calc.Calc{}
	longest := c.Add(power(131071), c.Sub(power(131071), large.Of(1)))
	other := calc.Negative(longest)
	two := [][]api.Int{list(1, 0, 0), list(0, 2, 0)}
	turn := [][]api.Int{list(0, 0, 2), list(0, 1, 0)}
	for _, l := range []struct {
		x, point []api.Int
		basis    [][]api.Int
		e        api.Errno
	}{
		{[]api.Int{other, {}, {}}, []api.Int{longest, large.Of(1), {}}, two, api.ErrNone},
		{[]api.Int{other, {}, {}}, []api.Int{longest, {}, large.Of(1)}, two, api.ErrNone},
		{[]api.Int{other, {}, {}}, []api.Int{longest, large.Of(2), {}}, two, api.ErrSize},
		{[]api.Int{{}, other, {}}, []api.Int{{}, longest, large.Of(1)}, turn, api.ErrNone},
		{[]api.Int{{}, other, {}}, []api.Int{large.Of(1), longest, {}}, turn, api.ErrNone},
		{[]api.Int{{}, other, {}}, []api.Int{{}, longest, large.Of(4)}, turn, api.ErrSize},
	} {
		s := api.Lattice{Solvable: true, X: l.x, Basis: l.basis}
		if m, e := Express([][]api.Int{list(0, 0, 0)}, list(0), s, l.point); e != l.e || len(m) > 0 {
			t.Error(len(m), e, l.e)
		}
	}
}

func TestInvalid(t *testing.T) {
	good := [][]api.Int{list(1, 2)}
	wide := [][]api.Int{make([]api.Int, 9)}
	tall := [][]api.Int{}
	for range 9 {
		tall = append(tall, list(1))
	}
	for name, l := range map[string]struct {
		a [][]api.Int
		b []api.Int
	}{
		"no rows":      {nil, nil},
		"no columns":   {[][]api.Int{{}}, list(1)},
		"wide":         {wide, list(1)},
		"tall":         {tall, make([]api.Int, 9)},
		"uneven":       {[][]api.Int{list(1, 2), list(1)}, list(1, 2)},
		"b too long":   {good, list(1, 2)},
		"no b":         {good, nil},
		"bits in a":    {[][]api.Int{{power(200)}}, list(1)},
		"bits in b":    {good, []api.Int{calc.Negative(power(200))}},
		"invalid in a": {[][]api.Int{{{Neg: true}}}, list(1)},
		"invalid in b": {good, []api.Int{{Neg: true}}},
	} {
		_, e1 := Holds(l.a, l.b, nil)
		_, e2 := Refutes(l.a, l.b, nil, large.Of(-1))
		s, e3 := Solve(l.a, l.b)
		_, e4 := Express(l.a, l.b, api.Lattice{}, nil)
		if e1 != api.ErrForm || e2 != api.ErrForm || e3 != api.ErrForm || e4 != api.ErrForm || !reflect.DeepEqual(s, api.Lattice{}) {
			t.Error(name, e1, e2, e3, e4)
		}
	}
}

// Results are new memory, and arguments are not changed (R5).
func TestMemory(t *testing.T) {
	a, b := [][]api.Int{list(1, 0, 2), list(0, 1, 3)}, list(4, 5)
	s := check(t, a, b)
	again := check(t, a, b)
	for _, v := range append(s.Basis, s.X) {
		for i := range v {
			for j := range v[i].Words {
				v[i].Words[j] = 99
			}
		}
	}
	if !reflect.DeepEqual(a, [][]api.Int{list(1, 0, 2), list(0, 1, 3)}) || !reflect.DeepEqual(b, list(4, 5)) || !reflect.DeepEqual(again, check(t, a, b)) {
		t.Error("shared memory")
	}
	s, _ = Solve([][]api.Int{list(0)}, list(7))
	if !reflect.DeepEqual(s.Y, list(1)) {
		t.Error(s)
	}
}
