package mask

import (
	"math"
	"math/big"
	"math/rand"
	"reflect"
	"slices"
	"strings"
	"testing"

	"arithmancy/api"
	"arithmancy/calc"
	"arithmancy/large"
	"arithmancy/poly"
	"arithmancy/system"
)

func holds(t *testing.T, list []api.Int) bool {
	t.Helper()
	is, e := system.Holds(Links(), list)
	if e != api.OK && e != api.ErrSize {
		t.Fatal(e)
	}
	return is
}

func choose(t *testing.T, n, k int) api.Int {
	t.Helper()
	a, e := Choose(n, k)
	if e != api.OK {
		t.Fatal(e)
	}
	return a
}

func TestLinks(t *testing.T) {
	s := Links()
	if !system.Valid(s) || s.Vars != 10 || len(s.Links) != 6 {
		t.Fatal("not valid")
	}
	for i, want := range []string{
		"2: 1 2: 2 x0+1 x1",
		"2: 1 2 3: x1+1 x0 x2",
		"2: 0 2 4: x1 x0 x2",
		"0: 2 3 4 5 6 7: -x0*x2*x4-2*x2*x3+x1-x2-x5",
		"0: 4 7 8: x0-x1-x2-1",
		"0: 2 5 9: x0-2*x1-x2-2",
	} {
		l := s.Links[i]
		var words []string
		for _, n := range append([]int{l.Kind}, l.Vars...) {
			word, _ := large.Text(large.Of(n))
			words = append(words, word)
		}
		words[0] += ":"
		words[len(words)-1] += ":"
		for _, p := range l.Polys {
			text, _ := poly.Text(p)
			words = append(words, text)
		}
		if got := strings.Join(words, " "); got != want {
			t.Error(i+1, got)
		}
	}
	// Each call returns new memory.
	s.Links[0].Vars[0] = 5
	if again := Links(); again.Links[0].Vars[0] != 1 {
		t.Error("shared memory")
	}
}

// P12.1: only then.
func TestOnlyThen(t *testing.T) {
	r := rand.New(rand.NewSource(1))
	for b := range 10 {
		for a := range 10 {
			if a&^b == 0 {
				continue
			}
			// The numbers that a and b determine; the others would have to be these, but one of them is not there.
			c := &calc.Calc{}
			one := large.Of(1)
			u := c.Power(large.Of(2), b+1)
			p, q := c.Power(c.Add(one, u), b), c.Power(u, a)
			digits, rest := c.Quotient(p, q), c.Rest(p, q)
			y, digit := c.Quotient(digits, u), c.Rest(digits, u)
			for _, by := range []int{0, 1} {
				z := c.Quotient(c.Add(digit, large.Of(by)), large.Of(2))
				list := []api.Int{large.Of(a), large.Of(b), u, p, q, z, y, rest, c.Sub(c.Sub(q, rest), one), c.Sub(c.Sub(u, c.Mul(large.Of(2), z)), large.Of(2))}
				if calc.Natural(list) && holds(t, list) {
					t.Fatal(a, b)
				}
			}
		}
	}
	for range 2000 {
		b := r.Intn(8)
		a := b & r.Intn(8)
		list, _ := Witness(a, b)
		for range 1 + r.Intn(3) {
			i := r.Intn(len(list))
			list[i], _ = large.Add(list[i], large.Of(r.Intn(6)))
		}
		if is, _ := large.Under(list[xa], list[xb]); !is && holds(t, list) {
			t.Fatal(list)
		}
	}
}

// P12.2: found, and there is no other solution.
func TestFound(t *testing.T) {
	r := rand.New(rand.NewSource(2))
	for _, b := range []int{0, 1, 2, 3, 6, 7, 12, 31, 100, 200} {
		for a := range b + 2 {
			list, e := Witness(a, b)
			if a&^b != 0 {
				if e != api.ErrNone || len(list) > 0 {
					t.Fatal(a, b, e)
				}
				continue
			}
			if e != api.OK || len(list) != 10 || !holds(t, list) || !calc.Equal(list[xa], large.Of(a)) || !calc.Equal(list[xb], large.Of(b)) {
				t.Fatal(a, b, e)
			}
			for range 5 {
				other := slices.Clone(list)
				i := 2 + r.Intn(8)
				other[i], _ = large.Add(other[i], large.Of(1+r.Intn(4)))
				if holds(t, other) {
					t.Fatal(a, b, i)
				}
			}
		}
	}
	if list, e := Witness(api.MaxChoose, api.MaxChoose); e != api.OK || len(list) != 10 {
		t.Error(e)
	}
}

// P12.3: Lucas and Kummer.
func TestParity(t *testing.T) {
	for n := range 80 {
		for k := range 85 {
			a := choose(t, n, k)
			odd := len(a.Words) > 0 && a.Words[0]%2 == 1
			if under, _ := large.Under(large.Of(k), large.Of(n)); odd != under {
				t.Fatal(n, k)
			}
		}
	}
	for m := range 60 {
		for k := range 60 {
			carries, carry := 0, 0
			for bit := range 8 {
				carry = (m>>bit&1 + k>>bit&1 + carry) / 2
				carries += carry
			}
			a := choose(t, m+k, k)
			power, _ := large.Shift(large.Of(1), carries)
			q, r, _ := large.Div(a, power)
			if len(r.Words) > 0 || q.Words[0]%2 == 0 {
				t.Fatal(m, k, carries)
			}
		}
	}
}

// P12.4: Pascal.
func TestPascal(t *testing.T) {
	for _, n := range []int{0, 1, 2, 5, 30, 150, 298, 299} {
		for k := 0; k < 300; k += 1 + k/9 {
			sum, _ := large.Add(choose(t, n, k), choose(t, n, k+1))
			if !calc.Equal(choose(t, n+1, k+1), sum) {
				t.Fatal(n, k)
			}
		}
	}
	for _, l := range [][2]int{{0, 0}, {300, 150}, {300, 300}, {300, 0}, {5, 7}, {0, 300}} {
		want := new(big.Int).Binomial(int64(l[0]), int64(l[1]))
		if l[1] > l[0] {
			want = new(big.Int)
		}
		if text, _ := large.Text(choose(t, l[0], l[1])); text != want.String() {
			t.Error(l, text)
		}
	}
}

func TestExamples(t *testing.T) {
	list, e := Witness(1, 1)
	var got []int
	for _, x := range list {
		n, _ := large.Small(x)
		got = append(got, n)
	}
	if e != api.OK || !slices.Equal(got, []int{1, 1, 4, 5, 4, 0, 0, 1, 2, 2}) {
		t.Error(got, e)
	}
	if list, e := Witness(1, 2); e != api.ErrNone || len(list) > 0 {
		t.Error(list, e)
	}
}

func TestErrors(t *testing.T) {
	for _, l := range [][2]int{{-1, 0}, {0, -1}, {301, 0}, {0, 301}, {math.MinInt, 1}, {1, math.MaxInt}, {math.MaxInt, math.MaxInt}} {
		a, e := Choose(l[0], l[1])
		list, f := Witness(l[0], l[1])
		if e != api.ErrArg || f != api.ErrArg || len(list) > 0 || !reflect.DeepEqual(a, api.Int{}) {
			t.Error(l, e, f)
		}
	}
	a := choose(t, 10, 5)
	a.Words[0] = 1
	if !calc.Equal(choose(t, 10, 5), large.Of(252)) {
		t.Error("shared memory")
	}
}
