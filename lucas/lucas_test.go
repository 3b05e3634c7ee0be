package lucas

import (
	"math"
	"math/rand"
	"reflect"
	"testing"

	"arithmancy/api"
	"arithmancy/calc"
	"arithmancy/large"
)

func text(a api.Int) string {
	s, _ := large.Text(a)
	return s
}

func parsed(t *testing.T, s string) api.Int {
	t.Helper()
	a, e := large.Parse(s)
	if e != api.OK {
		t.Fatal(e)
	}
	return a
}

func must(t *testing.T) func(a api.Int, e api.Errno) api.Int {
	return func(a api.Int, e api.Errno) api.Int {
		t.Helper()
		if e != api.OK || !large.Valid(a) {
			t.Fatal(e)
		}
		return a
	}
}

func power(n int) api.Int {
	a, _ := large.Power(large.Of(2), n)
	return a
}

// bases returns numbers a.
func bases(t *testing.T) []api.Int {
	return []api.Int{large.Of(2), large.Of(3), large.Of(10), large.Of(77), parsed(t, "123456789012345678901234567890")}
}

func TestElements(t *testing.T) {
	ok := must(t)
	for _, a := range bases(t) {
		var c calc.Calc
		chi, psi := []api.Int{large.Of(1), a}, []api.Int{large.Of(0), large.Of(1)}
		for n := range 40 {
			if !calc.Equal(ok(Psi(a, n)), psi[n]) || !calc.Equal(ok(Chi(a, n)), chi[n]) {
				t.Fatal(text(a), n)
			}
			two := c.Add(a, a)
			chi = append(chi, c.Sub(c.Mul(two, chi[n+1]), chi[n]))
			psi = append(psi, c.Sub(c.Mul(two, psi[n+1]), psi[n]))
		}
	}
}

// P8.1: Pell.
func TestPell(t *testing.T) {
	ok := must(t)
	for _, a := range bases(t) {
		for n := range 30 {
			var c calc.Calc
			x, y := ok(Chi(a, n)), ok(Psi(a, n))
			d := c.Sub(c.Mul(a, a), large.Of(1))
			if text(c.Sub(c.Mul(x, x), c.Mul(d, c.Mul(y, y)))) != "1" {
				t.Fatal(text(a), n)
			}
			if m, e := Index(a, y); m != n || e != api.OK {
				t.Fatal(text(a), n, m, e)
			}
		}
	}
	// Only for elements of psi there is a chi.
	for a := 2; a < 6; a++ {
		for y := range 2000 {
			square := (a*a-1)*y*y + 1
			x := int(math.Sqrt(float64(square)))
			n, e := Index(large.Of(a), large.Of(y))
			if (e == api.OK) != (x*x == square) || e != api.OK && (e != api.ErrNone || n != 0) {
				t.Fatal(a, y, n, e)
			}
		}
	}
}

// P8.2: sums.
func TestSums(t *testing.T) {
	ok, r := must(t), rand.New(rand.NewSource(1))
	for _, a := range bases(t) {
		for range 30 {
			var c calc.Calc
			m, n := r.Intn(40), r.Intn(40)
			x1, y1, x2, y2 := ok(Chi(a, m)), ok(Psi(a, m)), ok(Chi(a, n)), ok(Psi(a, n))
			d := c.Sub(c.Mul(a, a), large.Of(1))
			if !calc.Equal(ok(Psi(a, m+n)), c.Add(c.Mul(y1, x2), c.Mul(x1, y2))) || !calc.Equal(ok(Chi(a, m+n)), c.Add(c.Mul(x1, x2), c.Mul(d, c.Mul(y1, y2)))) {
				t.Fatal(text(a), m, n)
			}
		}
	}
}

func divides(a, b api.Int) bool {
	_, r, e := large.Div(b, a)
	return e == api.OK && calc.IsZero(r)
}

// P8.3: divisors.
func TestDivisors(t *testing.T) {
	ok := must(t)
	gcd := func(m, n int) int {
		for n > 0 {
			m, n = n, m%n
		}
		return m
	}
	for _, a := range bases(t) {
		for m := 1; m < 16; m++ {
			for n := range 30 {
				x, y := ok(Psi(a, m)), ok(Psi(a, n))
				if divides(x, y) != (n%m == 0) {
					t.Fatal(text(a), m, n)
				}
				if g, _, _, _ := large.Gcd(x, y); !calc.Equal(g, ok(Psi(a, gcd(m, n)))) {
					t.Fatal(text(a), m, n)
				}
			}
		}
	}
}

// P8.4: squares.
func TestSquares(t *testing.T) {
	ok := must(t)
	for a := 2; a < 4; a++ {
		for m := 1; m < 4; m++ {
			var c calc.Calc
			psi := ok(Psi(large.Of(a), m))
			step, _ := large.Small(psi)
			for n := range 4 * m * step {
				if divides(c.Mul(psi, psi), ok(Psi(large.Of(a), n))) != (n%(m*step) == 0) {
					t.Fatal(a, m, n)
				}
			}
			if n, e := Rank(large.Of(a), c.Mul(psi, psi), 1000); n != m*step || e != api.OK {
				t.Fatal(a, m, n, e)
			}
		}
	}
}

// P8.5: rests.
func TestRests(t *testing.T) {
	ok, r := must(t), rand.New(rand.NewSource(2))
	for range 200 {
		a, n, m := large.Of(2+r.Intn(100)), r.Intn(60), large.Of(1+r.Intn(1000))
		chi, psi, e := Rests(a, n, m)
		var c calc.Calc
		if e != api.OK || !calc.Equal(chi, c.Rest(ok(Chi(a, n)), m)) || !calc.Equal(psi, c.Rest(ok(Psi(a, n)), m)) {
			t.Fatal(text(a), n, text(m), e)
		}
		b := c.Add(a, m)
		chi2, psi2, e := Rests(b, n, m)
		if e != api.OK || !calc.Equal(chi, chi2) || !calc.Equal(psi, psi2) {
			t.Fatal(text(a), n, text(m), e)
		}
		less := c.Sub(a, large.Of(1))
		if _, psi, _ := Rests(a, n, less); !calc.Equal(psi, c.Rest(large.Of(n), less)) {
			t.Fatal(text(a), n)
		}
	}
	// Far out, psi(n) is the same as n modulo a - 1.
	for _, n := range []int{api.MaxIndex, api.MaxIndex - 1, 1<<59 + 12345} {
		a := parsed(t, "1000000000000000000000000000000000000000000000000000001")
		var c calc.Calc
		m := c.Sub(a, large.Of(1))
		if chi, psi, e := Rests(a, n, m); e != api.OK || !calc.Equal(psi, large.Of(n)) || text(chi) != "1" {
			t.Error(n, text(psi), e)
		}
	}
	if chi, psi, e := Rests(large.Of(5), 9, large.Of(1)); e != api.OK || len(chi.Words)+len(psi.Words) > 0 {
		t.Error(chi, psi, e)
	}
	long := power(api.MaxModulus - 1)
	if chi, psi, e := Rests(power(131071), 0, long); e != api.OK || text(chi) != "1" || text(psi) != "0" {
		t.Error(e)
	}
}

// P8.6: growth.
func TestGrowth(t *testing.T) {
	ok := must(t)
	for _, a := range bases(t) {
		for n := range 30 {
			var c calc.Calc
			psi, two := ok(Psi(a, n+1)), c.Add(a, a)
			low, high := ok(large.Power(c.Sub(two, large.Of(1)), n)), ok(large.Power(two, n))
			if calc.Less(psi, low) || calc.Less(high, psi) {
				t.Fatal(text(a), n)
			}
		}
	}
}

// P8.7: powers.
func TestPowers(t *testing.T) {
	ok := must(t)
	for a := 2; a < 20; a++ {
		for b := 1; b <= a; b++ {
			for n := range 15 {
				var c calc.Calc
				m := large.Of(2*a*b - b*b - 1)
				x := c.Sub(ok(Chi(large.Of(a), n)), c.Mul(large.Of(a-b), ok(Psi(large.Of(a), n))))
				power := ok(large.Power(large.Of(b), n))
				if calc.Less(x, power) || !divides(m, c.Sub(x, power)) {
					t.Fatal(a, b, n)
				}
			}
		}
	}
}

// P8.8: steps down.
func TestStepsDown(t *testing.T) {
	ok := must(t)
	for a := 2; a < 5; a++ {
		for n := 2; n < 5; n++ {
			chi := ok(Chi(large.Of(a), n))
			for i := range 30 {
				for j := range 30 {
					_, x, _ := Rests(large.Of(a), i, chi)
					_, y, _ := Rests(large.Of(a), j, chi)
					if calc.Equal(x, y) != ((i-j)%(4*n) == 0 || (i+j-2*n)%(4*n) == 0) {
						t.Fatal(a, n, i, j)
					}
				}
			}
		}
	}
}

func TestIndex(t *testing.T) {
	for _, l := range []struct {
		a, y string
		n    int
		e    api.Errno
	}{
		{"2", "0", 0, api.OK}, {"2", "1", 1, api.OK}, {"2", "56", 4, api.OK}, {"2", "57", 0, api.ErrNone}, {"2", "-1", 0, api.ErrNone}, {"2", "2", 0, api.ErrNone}, {"1", "1", 0, api.ErrArg}, {"-2", "4", 0, api.ErrArg}, {"1000", "2000", 2, api.OK}, {"1000", "3999999", 3, api.OK},
	} {
		if n, e := Index(parsed(t, l.a), parsed(t, l.y)); n != l.n || e != l.e {
			t.Error(l, n, e)
		}
	}
	ok := must(t)
	for _, l := range []struct {
		a api.Int
		n int
	}{{large.Of(2), 60000}, {power(131070), 2}, {power(65535), 3}, {large.Of(1000000), 6000}} {
		y := ok(Psi(l.a, l.n))
		if n, e := Index(l.a, y); n != l.n || e != api.OK {
			t.Error(l.n, n, e)
		}
		y, _ = large.Sub(y, large.Of(1))
		if n, e := Index(l.a, y); n != 0 || e != api.ErrNone {
			t.Error(l.n, n, e)
		}
	}
}

func TestRank(t *testing.T) {
	for a := 2; a < 8; a++ {
		for m := 1; m < 60; m++ {
			want := 1
			for !divides(large.Of(m), must(t)(Psi(large.Of(a), want))) {
				want++
			}
			if n, e := Rank(large.Of(a), large.Of(m), want); n != want || e != api.OK {
				t.Fatal(a, m, n, e)
			}
			if want == 1 {
				continue
			}
			if n, e := Rank(large.Of(a), large.Of(m), want-1); n != 0 || e != api.ErrNone {
				t.Fatal(a, m, n, e)
			}
		}
	}
	if n, e := Rank(large.Of(2), large.Of(8), 100); n != 4 || e != api.OK {
		t.Error(n, e)
	}
	if n, e := Rank(large.Of(2), large.Of(1), 1); n != 1 || e != api.OK {
		t.Error(n, e)
	}
	odd := must(t)(large.Add(power(api.MaxModulus-1), large.Of(13)))
	if n, e := Rank(power(3000), odd, api.MaxRank); e != api.ErrNone {
		t.Error(n, e)
	}
}

// Elements that are just valid, though what is near them is not.
func TestLimits(t *testing.T) {
	ok := must(t)
	if a := ok(Psi(power(65535), 3)); large.Bits(a) != 131072 {
		t.Error(large.Bits(a))
	}
	// 4 a^3 - 3 a, where 4 a^3 is too large.
	if a := ok(Chi(power(43690), 3)); large.Bits(a) != 131072 {
		t.Error(large.Bits(a))
	}
	most := power(131071)
	ok(Psi(most, 1))
	if a := ok(Chi(most, 1)); !calc.Equal(a, most) {
		t.Error("chi(1)")
	}
	ok(Psi(power(131070), 2))
	for _, l := range []struct {
		a   api.Int
		psi int // the least index at which it is too large
		chi int
	}{{most, 2, 2}, {power(131070), 3, 2}, {power(65536), 3, 2}, {power(65535), 4, 3}, {power(43691), 4, 3}, {power(43690), 4, 4}} {
		for n := range 20 {
			a, e := Psi(l.a, n)
			if (e == api.OK) != (n < l.psi) || e != api.OK && (e != api.ErrSize || len(a.Words) > 0) {
				t.Error("psi", large.Bits(l.a), n, e)
			}
			a, e = Chi(l.a, n)
			if (e == api.OK) != (n < l.chi) || e != api.OK && (e != api.ErrSize || len(a.Words) > 0) {
				t.Error("chi", large.Bits(l.a), n, e)
			}
		}
	}
	for _, n := range []int{1 << 20, math.MaxInt, math.MaxInt - 1} {
		_, e := Psi(large.Of(2), n)
		_, f := Chi(large.Of(2), n)
		if e != api.ErrSize || f != api.ErrSize {
			t.Error(n, e, f)
		}
	}
	// The last element for a = 2 that is valid, by the growth of (2 + w)^n with w w = 3.
	last := ok(Psi(large.Of(2), 68987))
	if _, e := Psi(large.Of(2), 68990); e != api.ErrSize || large.Bits(last) < 131060 {
		t.Error(e, large.Bits(last))
	}
}

func TestArguments(t *testing.T) {
	bad, two, one := api.Int{Neg: true}, large.Of(2), large.Of(1)
	long := power(api.MaxModulus)
	type errors [5]api.Errno
	all := func(a api.Int, n int, m api.Int, most int) errors {
		var e errors
		_, e[0] = Psi(a, n)
		_, e[1] = Chi(a, n)
		_, _, e[2] = Rests(a, n, m)
		_, e[3] = Index(a, m)
		_, e[4] = Rank(a, m, most)
		return e
	}
	const form, arg, none = api.ErrForm, api.ErrArg, api.ErrNone
	for i, l := range []struct {
		a    api.Int
		n    int
		m    api.Int
		most int
		want errors
	}{
		{bad, -1, one, 0, errors{form, form, form, form, form}},
		{one, 1, one, 1, errors{arg, arg, arg, arg, arg}},
		{large.Of(-3), 1, one, 1, errors{arg, arg, arg, arg, arg}},
		{two, -1, one, 0, errors{arg, arg, arg, api.OK, arg}},
		{two, math.MinInt, one, -1, errors{arg, arg, arg, api.OK, arg}},
		{two, 1, bad, 1, errors{api.OK, api.OK, form, form, form}},
		{one, 1, bad, 0, errors{arg, arg, form, form, form}},
		{two, 1, api.Int{}, 1, errors{api.OK, api.OK, arg, api.OK, arg}},
		{two, 1, large.Of(-4), 1, errors{api.OK, api.OK, arg, none, arg}},
		{two, 1, long, api.MaxRank, errors{api.OK, api.OK, arg, none, arg}},
		{two, 1, one, api.MaxRank + 1, errors{api.OK, api.OK, api.OK, api.OK, arg}},
		{two, api.MaxIndex + 1, one, 1, errors{api.ErrSize, api.ErrSize, arg, api.OK, api.OK}},
	} {
		if e := all(l.a, l.n, l.m, l.most); e != l.want {
			t.Error(i, e, l.want)
		}
	}
}

// Results are new memory (R5).
func TestMemory(t *testing.T) {
	a := large.Of(7)
	x, _ := Chi(a, 1)
	x.Words[0] = 99
	y, _, _ := Rests(a, 1, large.Of(100))
	y.Words[0] = 99
	if !reflect.DeepEqual(a, large.Of(7)) {
		t.Error(a)
	}
}
