package power

import (
	"math"
	"math/rand"
	"reflect"
	"slices"
	"strings"
	"testing"

	"arithmancy/api"
	"arithmancy/calc"
	"arithmancy/large"
	"arithmancy/poly"
	"arithmancy/system"
)

func holds(t *testing.T, xs []api.Int) bool {
	t.Helper()
	is, e := system.Holds(Links(), xs)
	if e != api.OK && e != api.ErrSize {
		t.Fatal(e)
	}
	return is
}

func TestLinks(t *testing.T) {
	s := Links()
	if !system.Valid(s) || s.Vars != 10 || len(s.Links) != 7 {
		t.Fatal("not valid")
	}
	for i, want := range []string{
		"0: 0 9: x0-x1-1",
		"1: 0 1 3: x0+2 x1+2 x2",
		"1: 1 3 4: x1 x0+1 x2",
		"0: 3 4 5: -x0^2*x1^2+x1^2+x2^2-1",
		"0: 0 3 6: x0^2-2*x0*x1+x2+1",
		"0: 0 2 3 4 5 6 7: -x0*x1+x0*x3-x2*x3-x5*x6+x4",
		"0: 0 2 6 8: -x0*x1+x2-x3-1",
	} {
		l := s.Links[i]
		var words []string
		for _, n := range append([]int{l.Kind}, l.Vars...) {
			word, _ := large.Text(large.Of(n))
			words = append(words, word)
		}
		words[0] += ":"
		words[len(words)-1] += ":"
		for _, p := range l.Polys {
			text, _ := poly.Text(p)
			words = append(words, text)
		}
		if got := strings.Join(words, " "); got != want {
			t.Error(i+1, got)
		}
	}
	// Each call returns new memory.
	s.Links[0].Vars[0] = 5
	if again := Links(); again.Links[0].Vars[0] != 0 {
		t.Error("shared memory")
	}
}

// P11.1: only then. Other numbers in the place of some of a solution are none, unless c is still the power.
func TestOnlyThen(t *testing.T) {
	r := rand.New(rand.NewSource(1))
	for b := 1; b < 5; b++ {
		for e := range 4 {
			xs, _ := Witness(large.Of(b), e)
			for range 200 {
				ys := slices.Clone(xs)
				for range 1 + r.Intn(4) {
					i := r.Intn(len(ys))
					ys[i], _ = large.Add(ys[i], large.Of(r.Intn(7)))
				}
				if !holds(t, ys) {
					continue
				}
				n, _ := large.Small(ys[xe])
				if power, err := large.Power(ys[xb], n); err != api.OK || !calc.Equal(power, ys[xc]) {
					t.Fatal(ys)
				}
			}
			// c is b^e, whatever the numbers after it that are not determined by b and e.
			for c := range 40 {
				for z := range 6 {
					ys := slices.Clone(xs)
					product := c * b
					m, _ := large.Small(xs[xM])
					ys[xc], ys[xz], ys[xy] = large.Of(c), large.Of(z), large.Of(m-product-1)
					if m > product && holds(t, ys) && !reflect.DeepEqual(xs, ys) {
						t.Fatal(b, e, c, z)
					}
				}
			}
		}
	}
}

// P11.2: found, and there is no other solution.
func TestFound(t *testing.T) {
	r := rand.New(rand.NewSource(2))
	for _, b := range []int{1, 2, 3, 7, 10, 999, 1000} {
		for e := range 6 {
			xs, err := Witness(large.Of(b), e)
			if err != api.OK || len(xs) != 10 || !holds(t, xs) {
				t.Fatal(b, e, err)
			}
			power, _ := large.Power(large.Of(b), e)
			if !calc.Equal(xs[xc], power) || !calc.Equal(xs[xb], large.Of(b)) || !calc.Equal(xs[xe], large.Of(e)) {
				t.Fatal(b, e)
			}
			for range 30 {
				ys := slices.Clone(xs)
				i := 2 + r.Intn(8)
				ys[i], _ = large.Add(ys[i], large.Of(1+r.Intn(5)))
				if holds(t, ys) {
					t.Fatal(b, e, i)
				}
			}
		}
	}
	for _, l := range [][2]int{{1, 100}, {2, 80}, {5, 60}} {
		if xs, err := Witness(large.Of(l[0]), l[1]); err != api.OK || !holds(t, xs) {
			t.Error(l, err)
		}
	}
}

func TestExample(t *testing.T) {
	xs, e := Witness(large.Of(1), 0)
	var got []int
	for _, x := range xs {
		n, _ := large.Small(x)
		got = append(got, n)
	}
	if e != api.OK || !slices.Equal(got, []int{1, 0, 1, 6, 1, 6, 10, 0, 8, 0}) {
		t.Error(got, e)
	}
}

func TestErrors(t *testing.T) {
	huge, _ := large.Shift(large.Of(1), 131000)
	half, _ := large.Shift(large.Of(1), 65534)
	for i, l := range []struct {
		b api.Int
		e int
		w api.Errno
	}{
		{api.Int{Neg: true}, -1, api.ErrForm}, {large.Of(0), 1, api.ErrArg}, {large.Of(-1), 1, api.ErrArg}, {large.Of(1), -1, api.ErrArg}, {large.Of(1), math.MinInt, api.ErrArg},
		{large.Of(1), math.MaxInt, api.ErrSize}, {large.Of(1), math.MaxInt - 1, api.ErrSize}, {large.Of(1), math.MaxInt - 2, api.ErrSize}, {large.Of(2), 100000, api.ErrSize}, {large.Of(1), 100000, api.ErrSize}, {huge, 0, api.ErrSize}, {half, 0, api.OK}, {half, 1, api.ErrSize},
	} {
		xs, e := Witness(l.b, l.e)
		if e != l.w || e != api.OK && len(xs) > 0 || e == api.OK && !holds(t, xs) {
			t.Error(i, e)
		}
	}
	b := large.Of(5)
	xs, _ := Witness(b, 1)
	xs[xb].Words[0], xs[xc].Words[0] = 9, 9
	if !calc.Equal(b, large.Of(5)) {
		t.Error("shared memory")
	}
}
