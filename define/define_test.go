package define

import (
	"math"
	"math/rand"
	"reflect"
	"slices"
	"strings"
	"testing"

	"arithmancy/api"
	"arithmancy/calc"
	"arithmancy/large"
	"arithmancy/lucas"
	"arithmancy/poly"
	"arithmancy/system"
)

func parsed(t *testing.T, s string) api.Int {
	t.Helper()
	a, e := large.Parse(s)
	if e != api.OK {
		t.Fatal(e)
	}
	return a
}

// solutions returns some solutions.
func solutions(t *testing.T) [][]api.Int {
	var list [][]api.Int
	for _, l := range [][2]int{{2, 1}, {3, 1}, {17, 1}, {500, 1}, {2, 2}, {3, 2}, {2, 3}} {
		xs, e := Witness(large.Of(l[0]), l[1])
		if e != api.OK || len(xs) != 16 {
			t.Fatal(l, e)
		}
		list = append(list, xs)
	}
	return list
}

func holds(t *testing.T, xs []api.Int) bool {
	t.Helper()
	is, e := system.Holds(Equations(), xs)
	if e != api.OK && e != api.ErrSize {
		t.Fatal(e)
	}
	return is
}

func TestEquations(t *testing.T) {
	s := Equations()
	if !system.Valid(s) || s.Vars != 16 || len(s.Links) != 11 {
		t.Fatal("not valid")
	}
	for i, want := range []string{
		"0 14: x0-x1-2",
		"1 15: x0-x1-1",
		"0 2 3: -x0^2*x1^2+x1^2+x2-1",
		"2 3 4 9: -2*x0^2*x1*x3-2*x0^2*x1+x2",
		"0 4 5: -x0^2*x1^2+x1^2+x2-1",
		"0 5 6: x0*x1-x1^2-x0+x2",
		"1 2 7 10: -2*x1*x3-x0+x2",
		"6 7 8: -x0^2*x1^2+x1^2+x2-1",
		"3 5 8 13: x0*x1*x2-x3^2",
		"2 5 7 11: -x1*x3-x0+x2",
		"1 2 12: -x0+x1-x2",
	} {
		l := s.Links[i]
		var names []string
		for _, v := range l.Vars {
			name, _ := large.Text(large.Of(v))
			names = append(names, name)
		}
		text, _ := poly.Text(l.Polys[0])
		if got := strings.Join(names, " ") + ": " + text; got != want || l.Kind != api.LinkEq {
			t.Error(i+1, got)
		}
	}
	// Each call returns new memory.
	s.Links[0].Polys[0].Terms[0].Coef.Words[0] = 5
	if again := Equations(); again.Links[0].Polys[0].Terms[0].Coef.Words[0] != 1 {
		t.Error("shared memory")
	}
}

func TestOne(t *testing.T) {
	p := One()
	want, e := system.One(Equations())
	if e != api.OK || !poly.Valid(p) || !reflect.DeepEqual(p, want) || p.Vars != 16 || poly.Degree(p) != 8 {
		t.Error(e, p.Vars, poly.Degree(p))
	}
	for _, xs := range solutions(t) {
		if large.Bits(xs[xI]) > 10000 {
			continue
		}
		if a, e := poly.Eval(p, xs); e != api.OK || !calc.IsZero(a) {
			t.Error(a, e)
		}
	}
}

// P10.1: only then. Other numbers in the place of one or two of a solution are none, unless C is still psi.
func TestOnlyThen(t *testing.T) {
	r := rand.New(rand.NewSource(1))
	for _, xs := range solutions(t)[:5] {
		for range 300 {
			ys := slices.Clone(xs)
			for range 1 + r.Intn(3) {
				i := r.Intn(len(ys))
				ys[i], _ = large.Add(ys[i], large.Of(r.Intn(5)))
			}
			changed := !reflect.DeepEqual(xs, ys)
			if holds(t, ys) && changed {
				b, _ := large.Small(ys[xB])
				psi, e := lucas.Psi(ys[xA], b)
				if e != api.OK || !calc.Equal(psi, ys[xC]) {
					t.Fatal(ys)
				}
			}
		}
		// C is psi_A(1), not psi_A(2), whatever the other numbers are.
		ys := slices.Clone(xs)
		ys[xB], _ = large.Add(ys[xB], large.Of(1))
		ys[xl], _ = large.Add(ys[xl], large.Of(1))
		if holds(t, ys) {
			t.Fatal(ys)
		}
	}
	// No small numbers are a solution.
	for range 20000 {
		xs := make([]api.Int, 16)
		for i := range xs {
			xs[i] = large.Of(r.Intn(4))
		}
		if holds(t, xs) {
			t.Fatal(xs)
		}
	}
}

// P10.2: found.
func TestFound(t *testing.T) {
	for _, xs := range solutions(t) {
		if is, e := system.Holds(Equations(), xs); !is || e != api.OK {
			t.Error(xs[:3], is, e)
		}
	}
	for a := 2; a <= 500; a++ {
		if a > 20 && a%40 != 0 {
			continue
		}
		if xs, e := Witness(large.Of(a), 1); e != api.OK || !holds(t, xs) {
			t.Error(a, e)
		}
	}
}

// P10.3: steps.
func TestSteps(t *testing.T) {
	for _, xs := range solutions(t) {
		b, _ := large.Small(xs[xB])
		psi, _ := lucas.Psi(xs[xA], b)
		if !calc.Equal(psi, xs[xC]) {
			t.Error("C", b)
		}
		for _, i := range []int{xD, xF, xI} {
			if _, is, e := large.Root(xs[i]); !is || e != api.OK {
				t.Error("no square", i)
			}
		}
		q, e := lucas.Index(xs[xA], xs[xE])
		if e != api.OK || q == 0 {
			t.Error("E", e)
		}
		if _, r, _ := large.Div(large.Of(q), xs[xC]); !calc.IsZero(r) {
			t.Error("C does not divide q")
		}
		var c calc.Calc
		step := c.Mul(large.Of(2), c.Mul(c.Mul(xs[xC], xs[xC]), xs[xD]))
		if least, e := lucas.Rank(xs[xA], step, api.MaxRank); least != q || e != api.OK {
			t.Error("q is not the least one", q, least)
		}
		less := c.Sub(xs[xA], large.Of(1))
		if !calc.Equal(c.Rest(xs[xC], less), c.Rest(xs[xB], less)) {
			t.Error("C and B")
		}
	}
}

func TestExample(t *testing.T) {
	xs, e := Witness(large.Of(2), 1)
	var want []api.Int
	for _, s := range []string{"2", "1", "1", "4", "56", "9409", "88510465", "1", "7834102414516225", "6", "0", "0", "0", "17170834", "0", "0"} {
		want = append(want, parsed(t, s))
	}
	if want[xG] = large.Of(2 + 9409*9407); e != api.OK || !calc.Equal(xs[xG], want[xG]) {
		t.Error(e, xs[xG])
	}
	var c calc.Calc
	want[xI] = c.Mul(want[xG], want[xG])
	want[xw] = c.Mul(large.Of(2*97), want[xG])
	if !reflect.DeepEqual(xs, want) {
		t.Error(xs)
	}
}

func TestErrors(t *testing.T) {
	huge, _ := large.Shift(large.Of(1), 131000)
	middle, _ := large.Shift(large.Of(1), 900)
	for i, l := range []struct {
		a api.Int
		b int
		e api.Errno
	}{
		{api.Int{Neg: true}, 0, api.ErrForm}, {large.Of(1), 1, api.ErrArg}, {large.Of(0), 1, api.ErrArg}, {large.Of(-2), 1, api.ErrArg}, {large.Of(2), 0, api.ErrArg}, {large.Of(2), math.MinInt, api.ErrArg},
		{large.Of(2), math.MaxInt, api.ErrSize}, {large.Of(2), 4, api.ErrSize}, {huge, 1, api.ErrSize}, {huge, 2, api.ErrSize}, {middle, 2, api.ErrSize}, {middle, 3, api.ErrSize},
		// The least q is too great.
		{large.Of(10007), 1, api.ErrSize},
	} {
		if xs, e := Witness(l.a, l.b); e != l.e || len(xs) > 0 {
			t.Error(i, e)
		}
	}
	a := large.Of(5)
	xs, _ := Witness(a, 1)
	xs[xA].Words[0] = 9
	if !calc.Equal(a, large.Of(5)) {
		t.Error("shared memory")
	}
}
