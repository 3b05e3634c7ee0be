package none

import (
	"math"
	"math/rand"
	"reflect"
	"slices"
	"testing"

	"arithmancy/api"
	"arithmancy/large"
	"arithmancy/poly"
)

func parsed(t *testing.T, s string, vars int) api.Poly {
	t.Helper()
	p, e := poly.Parse(s, vars)
	if e != api.OK {
		t.Fatalf("%q: %d", s, e)
	}
	return p
}

func random(r *rand.Rand, vars int) api.Poly {
	p, _ := poly.Const(vars, large.Of(r.Intn(9)-4))
	for range r.Intn(4) {
		t := api.Term{Coef: large.Of(r.Intn(6) + 1), Exps: make([]int, vars)}
		t.Coef.Neg = r.Intn(2) == 0
		for i := range t.Exps {
			t.Exps[i] = r.Intn(4)
		}
		p, _ = poly.Add(p, api.Poly{Vars: vars, Terms: []api.Term{t}})
	}
	return p
}

// points calls f with all lists of numbers from low to high.
func points(vars, low, high int, f func(xs []api.Int)) {
	var fill func(xs []api.Int)
	fill = func(xs []api.Int) {
		if len(xs) == vars {
			f(xs)
			return
		}
		for n := low; n <= high; n++ {
			fill(append(xs[:len(xs):len(xs)], large.Of(n)))
		}
	}
	fill(nil)
}

// zeros returns the zeros in order.
func zeros(t *testing.T, p api.Poly, low, high int) [][]api.Int {
	var list [][]api.Int
	points(p.Vars, low, high, func(xs []api.Int) {
		a, e := poly.Eval(p, xs)
		if e != api.OK {
			t.Fatal(e)
		}
		if len(a.Words) == 0 {
			list = append(list, xs)
		}
	})
	return list
}

// P6.1: none.
func TestNone(t *testing.T) {
	r := rand.New(rand.NewSource(1))
	accepted := 0
	for range 300 {
		p := random(r, r.Intn(3))
		for _, reason := range []api.None{{Kind: api.NoSign}, {Kind: api.NoModulo, M: 2 + r.Intn(8)}} {
			for _, naturals := range []bool{false, true} {
				holds, e := Check(p, reason, naturals)
				if e != api.OK {
					t.Fatal(e)
				}
				low := -4
				if naturals {
					low = 0
				}
				if holds {
					accepted++
				}
				if found := zeros(t, p, low, 5); holds && len(found) > 0 {
					t.Fatal(p, reason, found)
				}
			}
		}
	}
	if accepted < 50 {
		t.Error(accepted)
	}
}

func TestCheck(t *testing.T) {
	for _, l := range []struct {
		p        string
		vars     int
		kind, m  int
		integers bool
		naturals bool
	}{
		{"x0^2-3", 1, api.NoModulo, 4, true, true},
		{"x0^2-3", 1, api.NoModulo, 3, false, false},
		{"x0^2-3", 1, api.NoModulo, 1, false, false},
		{"x0^2-3", 1, api.NoModulo, 0, false, false},
		{"x0^2-3", 1, api.NoModulo, -4, false, false},
		{"x0^2-3", 1, api.NoModulo, 10000, true, true},
		{"x0^2-3", 1, api.NoModulo, 10004, false, false},
		{"x0^2-3", 1, api.NoModulo, math.MaxInt, false, false},
		{"4*x0+4*x1-2", 2, api.NoModulo, 1000, true, true},
		{"4*x0+4*x1-2", 2, api.NoModulo, 1004, false, false},
		{"4*x0+4*x1-2", 3, api.NoModulo, 100, true, true},
		{"4*x0+4*x1-2", 3, api.NoModulo, 104, false, false},
		{"5", 0, api.NoModulo, 10, true, true},
		{"5", 0, api.NoModulo, 5, false, false},
		{"0", 0, api.NoModulo, 5, false, false},
		{"x0^2+x1^2+1", 2, api.NoSign, 0, true, true},
		{"-x0^2-x1^2-1", 2, api.NoSign, 0, true, true},
		{"x0^2+x1^2+1", 2, api.NoSign, 2, false, false},
		{"x0^2+x1^2", 2, api.NoSign, 0, false, false},
		{"x0^2-x1^2+1", 2, api.NoSign, 0, false, false},
		{"x0^2+x1^2-1", 2, api.NoSign, 0, false, false},
		{"x0+1", 1, api.NoSign, 0, false, true},
		{"x0*x1+1", 2, api.NoSign, 0, false, true},
		{"-3", 1, api.NoSign, 0, true, true},
		{"0", 1, api.NoSign, 0, false, false},
	} {
		p := parsed(t, l.p, l.vars)
		a, e := Check(p, api.None{Kind: l.kind, M: l.m}, false)
		b, f := Check(p, api.None{Kind: l.kind, M: l.m}, true)
		if a != l.integers || b != l.naturals || e != api.OK || f != api.OK {
			t.Error(l, a, b, e, f)
		}
	}
	p := parsed(t, "1", 0)
	for _, kind := range []int{-1, api.NoneKinds} {
		if is, e := Check(p, api.None{Kind: kind}, true); is || e != api.ErrArg {
			t.Error(is, e)
		}
	}
}

// P6.2: found.
func TestFind(t *testing.T) {
	r := rand.New(rand.NewSource(2))
	for range 300 {
		p, most, naturals := random(r, r.Intn(3)), 1+r.Intn(20), r.Intn(2) == 0
		reason, e := Find(p, most, naturals)
		holds := func(r api.None) bool {
			is, _ := Check(p, r, naturals)
			return is
		}
		want := api.None{Kind: api.NoSign}
		for m := 2; m <= most && !holds(want); m++ {
			want = api.None{Kind: api.NoModulo, M: m}
		}
		if !holds(want) {
			if e != api.ErrNone || reason != (api.None{}) {
				t.Fatal(p, reason, e)
			}
		} else if e != api.OK || reason != want {
			t.Fatal(p, reason, want, e)
		}
	}
	for _, l := range []struct {
		p       string
		vars    int
		most    int
		integer api.None
		e       api.Errno
	}{
		{"x0^2-3", 1, 10, api.None{Kind: api.NoModulo, M: 4}, api.OK},
		{"x0^2-3", 1, 3, api.None{}, api.ErrNone},
		{"x0^2+x1^2+1", 2, 1, api.None{Kind: api.NoSign}, api.OK},
		{"97*x0+1", 1, 100, api.None{Kind: api.NoModulo, M: 97}, api.OK},
		{"97*x0+1", 4, 100, api.None{}, api.ErrNone},
		{"31*x0+1", 4, 100, api.None{Kind: api.NoModulo, M: 31}, api.OK},
		{"x0", 1, 0, api.None{}, api.ErrArg},
		{"x0", 1, 101, api.None{}, api.ErrArg},
		{"x0", 1, -5, api.None{}, api.ErrArg},
	} {
		if reason, e := Find(parsed(t, l.p, l.vars), l.most, false); reason != l.integer || e != l.e {
			t.Error(l, reason, e)
		}
	}
}

// P6.3: zero.
func TestZero(t *testing.T) {
	r := rand.New(rand.NewSource(3))
	for range 300 {
		p, most := random(r, r.Intn(4)), r.Intn(6)
		all := zeros(t, p, 0, most)
		first, e := Zero(p, most)
		if len(all) == 0 && (e != api.ErrNone || len(first) > 0) {
			t.Fatal(p, first, e)
		}
		if len(all) > 0 && (e != api.OK || !slices.EqualFunc(first, all[0], func(a, b api.Int) bool { return reflect.DeepEqual(a, b) })) {
			t.Fatal(p, first, all[0], e)
		}
	}
	xs, e := Zero(parsed(t, "-x1^3+x0^2-1", 2), 10)
	if n, _ := large.Small(xs[0]); e != api.OK || n != 1 {
		t.Error(xs, e)
	}
	for _, l := range []struct {
		p    string
		vars int
		most int
		e    api.Errno
	}{
		{"x0-999999", 1, 999999, api.OK}, {"x0-999999", 1, 999998, api.ErrNone}, {"x0", 1, 1000000, api.ErrArg}, {"x0", 1, math.MaxInt, api.ErrArg}, {"x0", 1, -1, api.ErrArg},
		{"x0*x1-998001", 2, 999, api.OK}, {"x0", 2, 1000, api.ErrArg}, {"0", 0, math.MaxInt, api.OK}, {"7", 0, math.MaxInt, api.ErrNone}, {"x31", 32, 0, api.OK}, {"x0", 20, 1, api.ErrArg}, {"x0-1", 19, 1, api.OK},
		// Values that are 0 modulo numbers of the program.
		{"2147483647*x0+2147483647", 1, 50, api.ErrNone}, {"x0-2147483647", 1, 50, api.ErrNone}, {"2147483647*x0+2147483647", 1, 999999, api.ErrNone},
		{"4611686011984936962*x0+4611686011984936962", 1, 50, api.ErrNone}, {"4611686011984936962*x0-4611686011984936962", 1, 50, api.OK},
	} {
		xs, e := Zero(parsed(t, l.p, l.vars), l.most)
		if e != l.e || e == api.OK && len(xs) != l.vars || e != api.OK && len(xs) > 0 {
			t.Error(l, xs, e)
		}
	}
}

// Values are too large to be numbers, or 0 modulo a number of the program.
func TestZeroOfLargeValues(t *testing.T) {
	for _, l := range []struct {
		more int
		e    api.Errno
	}{{0, api.OK}, {1, api.ErrNone}, {2147483647, api.ErrNone}} {
		p := parsed(t, "x0^3-27", 1)
		for i := range p.Terms {
			p.Terms[i].Coef, _ = large.Shift(p.Terms[i].Coef, 131066)
		}
		more, _ := poly.Const(1, large.Of(l.more))
		p, _ = poly.Add(p, more)
		xs, e := Zero(p, 1000)
		if e != l.e || e == api.OK && !reflect.DeepEqual(xs, []api.Int{large.Of(3)}) {
			t.Error(l, xs, e)
		}
	}
}

// P6.3: the longest coefficients, with both signs.
func TestZeroOfLongestCoefficients(t *testing.T) {
	longest := api.Int{Words: slices.Repeat([]uint32{math.MaxUint32}, api.MaxWords)}
	other := api.Int{Neg: true, Words: longest.Words}
	half, _ := large.Shift(other, -16*api.MaxWords)
	for _, l := range []struct {
		text  string
		coefs []api.Int
		want  []api.Int
		e     api.Errno
	}{
		{"x0", []api.Int{longest}, []api.Int{{}}, api.OK},
		{"x0^2-x0", []api.Int{longest, other}, []api.Int{{}}, api.OK},
		{"x0-1", []api.Int{longest, other}, []api.Int{large.Of(1)}, api.OK},
		{"x0+1", []api.Int{longest, longest}, nil, api.ErrNone},
		{"x0^2-3*x0+1", []api.Int{longest, other, large.Of(1)}, nil, api.ErrNone},
		{"x0-1", []api.Int{half, longest}, nil, api.ErrNone},
		// All of them together are longer than a number.
		{"x0^4-x0^3-x0^2-x0", []api.Int{longest, other, other, other}, []api.Int{{}}, api.OK},
		{"x0^3-x0^2-x0-1", []api.Int{longest, other, other, other}, nil, api.ErrNone},
		{"x0^3-x0^2-x0-1", []api.Int{longest, other, other, large.Of(0)}, nil, api.ErrForm},
		{"-x0^120+1", []api.Int{other, longest}, []api.Int{large.Of(1)}, api.OK},
	} {
		for _, neg := range []bool{false, true} {
			p := parsed(t, l.text, 1)
			for i, c := range l.coefs {
				p.Terms[i].Coef = api.Int{Neg: c.Neg != neg && len(c.Words) > 0, Words: c.Words}
			}
			xs, e := Zero(p, 3)
			if e != l.e || len(xs) != len(l.want) || len(xs) > 0 && !reflect.DeepEqual(xs, l.want) {
				t.Error(l.text, neg, xs, e)
			}
		}
	}
}

// P6.3: many terms, whose coefficients all are long and have many divisors, are looked at in time.
func TestZeroOfManyDivisors(t *testing.T) {
	product := large.Of(1)
	for m := math.MaxInt32; large.Bits(product) < 32*(api.MaxWords-1); m-- {
		product, _ = large.Mul(product, large.Of(m))
	}
	p := api.Poly{Vars: 2}
	for degree := 53; degree > 0; degree-- {
		for i := degree; i >= 0; i-- {
			p.Terms = append(p.Terms, api.Term{Coef: product, Exps: []int{i, degree - i}})
		}
	}
	if xs, e := Zero(p, 0); e != api.OK || !reflect.DeepEqual(xs, []api.Int{{}, {}}) {
		t.Error(xs, e)
	}
	p.Terms = append(p.Terms, api.Term{Coef: product, Exps: []int{0, 0}})
	if xs, e := Zero(p, 0); e != api.ErrNone || len(xs) > 0 {
		t.Error(xs, e)
	}
}

// P6.4: rests.
func TestRests(t *testing.T) {
	r := rand.New(rand.NewSource(4))
	for range 300 {
		p, m := random(r, r.Intn(3)), 1+r.Intn(9)
		rests, e := Rests(p, m)
		if e != api.OK {
			t.Fatal(e)
		}
		met := map[int]bool{}
		points(p.Vars, 0, m-1, func(xs []api.Int) {
			a, _ := poly.Eval(p, xs)
			met[rest(a, m)] = true
		})
		for i, n := range rests {
			if i > 0 && n <= rests[i-1] || !met[n] {
				t.Fatal(p, m, rests)
			}
		}
		points(p.Vars, -3, 3, func(xs []api.Int) {
			a, _ := poly.Eval(p, xs)
			if !slices.Contains(rests, rest(a, m)) {
				t.Fatal(p, m, rests, xs)
			}
		})
		holds, _ := Check(p, api.None{Kind: api.NoModulo, M: m}, false)
		if m > 1 && holds == slices.Contains(rests, 0) {
			t.Fatal(p, m, rests, holds)
		}
	}
	if rests, e := Rests(parsed(t, "x0^2", 1), 8); !slices.Equal(rests, []int{0, 1, 4}) || e != api.OK {
		t.Error(rests, e)
	}
	if rests, e := Rests(parsed(t, "-5", 0), 1); !slices.Equal(rests, []int{0}) || e != api.OK {
		t.Error(rests, e)
	}
	for _, l := range []struct{ vars, m int }{{1, 0}, {1, -3}, {1, 10001}, {2, 1001}, {3, 101}, {32, 2}, {0, 10001}} {
		if rests, e := Rests(api.Poly{Vars: l.vars}, l.m); e != api.ErrArg || len(rests) > 0 {
			t.Error(l, rests, e)
		}
	}
}

// P6.5: divisor.
func TestMultiples(t *testing.T) {
	r := rand.New(rand.NewSource(5))
	for range 200 {
		p := random(r, 1+r.Intn(2))
		for m := 2; m < 12; m++ {
			holds, _ := Check(p, api.None{Kind: api.NoModulo, M: m}, false)
			multiple, _ := Check(p, api.None{Kind: api.NoModulo, M: m * (1 + r.Intn(5))}, false)
			if holds && !multiple {
				t.Fatal(p, m)
			}
		}
	}
}

func TestInvalid(t *testing.T) {
	bad := api.Poly{Vars: 1, Terms: []api.Term{{}}}
	is, e1 := Check(bad, api.None{Kind: 9}, false)
	_, e2 := Find(bad, 0, false)
	_, e3 := Zero(bad, -1)
	_, e4 := Rests(bad, 0)
	if is || e1 != api.ErrForm || e2 != api.ErrForm || e3 != api.ErrForm || e4 != api.ErrForm {
		t.Error(e1, e2, e3, e4)
	}
}
