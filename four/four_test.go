package four

import (
	"math"
	"math/rand"
	"reflect"
	"slices"
	"testing"

	"arithmancy/api"
	"arithmancy/large"
	"arithmancy/poly"
)

// sums returns for each number below the limit whether it is a sum of k squares.
func sums(limit, k int) []bool {
	is := make([]bool, limit)
	is[0] = true
	for range k {
		next := make([]bool, limit)
		for n := range limit {
			for a := 0; a*a <= n; a++ {
				next[n] = next[n] || is[n-a*a]
			}
		}
		is = next
	}
	return is
}

func check(t *testing.T, n, k int, want bool) {
	t.Helper()
	roots, e := Squares(n, k)
	if !want {
		if e != api.ErrNone || len(roots) > 0 {
			t.Error(n, k, roots, e)
		}
		return
	}
	sum := 0
	for i, r := range roots {
		sum += r * r
		if r < 0 || i > 0 && r > roots[i-1] {
			t.Error(n, k, roots)
		}
	}
	if e != api.OK || sum != n || len(roots) != k {
		t.Error(n, k, roots, e)
	}
}

func TestSmallNumbers(t *testing.T) {
	for k := 1; k <= 4; k++ {
		for n, want := range sums(2000, k) {
			check(t, n, k, want)
		}
	}
}

// awkward returns numbers up to the limit, of which some are divisible by many squares.
func awkward() []int {
	list := []int{api.MaxSquare, api.MaxSquare - 1, 999950884, 999950883, 1 << 29, 7 << 27, 3 << 28, 15 << 25, 31622 * 31622, 268435456, 805306368}
	for n := 7; n <= api.MaxSquare; n *= 4 {
		list = append(list, n)
	}
	r := rand.New(rand.NewSource(1))
	for range 300 {
		list = append(list, r.Intn(api.MaxSquare+1))
	}
	return list
}

// P4.1: Lagrange.
func TestFour(t *testing.T) {
	for _, n := range awkward() {
		check(t, n, 4, true)
	}
}

// P4.2: Legendre.
func TestThree(t *testing.T) {
	for _, n := range awkward() {
		m := n
		for m > 0 && m%4 == 0 {
			m /= 4
		}
		check(t, n, 3, m%8 != 7)
	}
}

// P4.3: Fermat and Euler.
func TestTwo(t *testing.T) {
	for _, n := range awkward() {
		want, left := true, n
		for p := 2; p*p <= left; p++ {
			times := 0
			for ; left%p == 0; left /= p {
				times++
			}
			want = want && (p%4 != 3 || times%2 == 0)
		}
		check(t, n, 2, want && left%4 != 3)
	}
}

func TestSquaresArguments(t *testing.T) {
	for _, l := range [][2]int{{-1, 4}, {api.MaxSquare + 1, 4}, {5, 0}, {5, 5}, {5, -1}, {math.MinInt, 2}, {math.MaxInt, 2}} {
		if roots, e := Squares(l[0], l[1]); e != api.ErrArg || len(roots) > 0 {
			t.Error(l, roots, e)
		}
	}
	if roots, _ := Squares(7, 4); !slices.Equal(roots, []int{2, 1, 1, 1}) {
		t.Error(roots)
	}
	check(t, 7, 3, false)
	check(t, 25, 2, true)
}

func parsed(t *testing.T, s string, vars int) api.Poly {
	t.Helper()
	p, e := poly.Parse(s, vars)
	if e != api.OK {
		t.Fatal(s, e)
	}
	return p
}

// P4.4: integers.
func TestIntegers(t *testing.T) {
	r := rand.New(rand.NewSource(2))
	for _, s := range []string{"0", "5", "x0", "x0^3-2*x0*x1+7", "x1^2-x0-1", "-x0^2*x1^2+x1^3-x0"} {
		p := parsed(t, s, 2)
		q, e := Integers(p)
		if e != api.OK || q.Vars != 8 || !poly.Valid(q) {
			t.Fatal(s, e)
		}
		for range 20 {
			xs := []api.Int{large.Of(r.Intn(3000)), large.Of(r.Intn(3000))}
			ys, _ := Roots(xs)
			a, _ := poly.Eval(p, xs)
			b, e := poly.Eval(q, ys)
			if e != api.OK || !reflect.DeepEqual(a, b) {
				t.Fatal(s, xs, a, b, e)
			}
			// And at other integers, too, with natural numbers that belong to them.
			for i := range ys {
				ys[i] = large.Of(r.Intn(21) - 10)
			}
			xs, _ = Naturals(ys)
			a, _ = poly.Eval(p, xs)
			b, _ = poly.Eval(q, ys)
			if !reflect.DeepEqual(a, b) {
				t.Fatal(s, ys, a, b)
			}
		}
	}
	q, _ := Integers(parsed(t, "x0-7", 1))
	if s, _ := poly.Text(q); s != "x0^2+x1^2+x2^2+x3^2-7" {
		t.Error(s)
	}
}

func TestIntegersLimits(t *testing.T) {
	for _, l := range []struct {
		s     string
		vars  int
		terms int // 0: too large
	}{
		{"x0", 8, 4}, {"x7^2", 8, 10}, {"x0", 9, 0}, {"1", 8, 1}, {"x0^24", 1, 2925}, {"x0^25", 1, 0}, {"x0^61", 1, 0}, {"x0^24+x0^6", 1, 0}, {"x0^24+x0^5+x0^2", 1, 2991},
	} {
		q, e := Integers(parsed(t, l.s, l.vars))
		if l.terms == 0 && (e != api.ErrSize || !reflect.DeepEqual(q, api.Poly{})) || l.terms > 0 && (e != api.OK || len(q.Terms) != l.terms || q.Vars != 4*l.vars) {
			t.Error(l, e, len(q.Terms))
		}
	}
	if _, e := Integers(api.Poly{Vars: -1}); e != api.ErrForm {
		t.Error(e)
	}
	if q, e := Integers(api.Poly{Vars: 9}); e != api.ErrSize || q.Vars != 0 {
		t.Error(e)
	}
}

// P4.5: back.
func TestBack(t *testing.T) {
	var xs []api.Int
	for _, n := range awkward() {
		xs = append(xs, large.Of(n))
	}
	ys, e := Roots(xs)
	back, e2 := Naturals(ys)
	if e != api.OK || e2 != api.OK || len(ys) != 4*len(xs) || !reflect.DeepEqual(xs, back) {
		t.Error(e, e2)
	}
	if ys, e := Roots(nil); len(ys) > 0 || e != api.OK {
		t.Error(ys, e)
	}
}

func TestRootsArguments(t *testing.T) {
	huge, _ := large.Shift(large.Of(1), 32*api.MaxWords-1)
	bad := api.Int{Words: []uint32{0}}
	for _, l := range []struct {
		xs []api.Int
		e  api.Errno
	}{{[]api.Int{large.Of(-1), bad}, api.ErrForm}, {[]api.Int{{}, large.Of(-1)}, api.ErrArg}, {[]api.Int{large.Of(api.MaxSquare + 1)}, api.ErrArg}, {[]api.Int{huge}, api.ErrArg}} {
		if ys, e := Roots(l.xs); e != l.e || len(ys) > 0 {
			t.Error(e, l.e)
		}
	}
	for _, l := range []struct {
		ys []api.Int
		e  api.Errno
	}{{[]api.Int{bad}, api.ErrForm}, {make([]api.Int, 3), api.ErrArg}, {[]api.Int{{}, {}, huge, {}}, api.ErrSize}, {nil, api.OK}} {
		if xs, e := Naturals(l.ys); e != l.e || len(xs) > 0 {
			t.Error(e, l.e)
		}
	}
}
