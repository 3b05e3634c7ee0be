package pell

import (
	"math"
	"math/rand"
	"reflect"
	"slices"
	"testing"

	"arithmancy/api"
	"arithmancy/calc"
	"arithmancy/large"
)

func text(a api.Int) string {
	s, _ := large.Text(a)
	return s
}

// norm returns x x - D y y.
func norm(d int, x, y api.Int) string {
	var c calc.Calc
	return text(c.Sub(c.Mul(x, x), c.Mul(large.Of(d), c.Mul(y, y))))
}

func isSquare(n int) bool {
	r := int(math.Sqrt(float64(n)))
	return r*r == n
}

// numbers returns some D, small ones and others.
func numbers() []int {
	var list []int
	for d := 2; d < 150; d++ {
		list = append(list, d)
	}
	list = append(list, 991, 9781, 999999, 999983, 950821)
	return slices.DeleteFunc(list, isSquare)
}

// P7.1: solutions.
func TestSolutions(t *testing.T) {
	for _, d := range numbers() {
		for _, n := range []int{0, 1, 2, 3, 7} {
			x, y, e := Nth(d, n)
			if e != api.OK || norm(d, x, y) != "1" {
				t.Fatal(d, n, e)
			}
			if m, e := Index(d, x, y); m != n || e != api.OK {
				t.Fatal(d, n, m, e)
			}
		}
	}
	for _, d := range []int{2, 3, 5, 6, 7, 8, 13} {
		n := 0
		for y := range 3000 {
			x := int(math.Sqrt(float64(d*y*y + 1)))
			m, e := Index(d, large.Of(x), large.Of(y))
			if x*x == d*y*y+1 {
				if m != n || e != api.OK {
					t.Fatal(d, x, y, m, e)
				}
				n++
			} else if e != api.ErrNone || m != 0 {
				t.Fatal(d, x, y, m, e)
			}
		}
	}
}

// P7.2: least.
func TestLeast(t *testing.T) {
	for _, d := range numbers() {
		x, y, e := Least(d)
		if e != api.OK || norm(d, x, y) != "1" {
			t.Fatal(d, e)
		}
		most, small := large.Small(y)
		if !small {
			most = math.MaxInt
		}
		for y := 1; y < min(most, 20000); y++ {
			if isSquare(d*y*y + 1) {
				t.Fatal(d, y)
			}
		}
	}
	for d, want := range map[int][2]string{2: {"3", "2"}, 7: {"8", "3"}, 13: {"649", "180"}, 61: {"1766319049", "226153980"}, 991: {"379516400906811930638014896080", "12055735790331359447442538767"}} {
		if x, y, _ := Least(d); text(x) != want[0] || text(y) != want[1] {
			t.Error(d, text(x), text(y))
		}
	}
}

// P7.3: minus.
func TestMinus(t *testing.T) {
	for _, d := range numbers() {
		period, _ := Period(d)
		x, y, e := Minus(d)
		if len(period)%2 == 0 {
			if e != api.ErrNone || len(x.Words)+len(y.Words) > 0 {
				t.Fatal(d, e)
			}
		} else if e != api.OK || norm(d, x, y) != "-1" || x.Neg || y.Neg {
			t.Fatal(d, e)
		}
		for y := 1; y < 2000; y++ {
			if isSquare(d*y*y - 1) {
				if e != api.OK {
					t.Fatal(d, y)
				}
				if _, least, _ := Minus(d); text(least) != text(large.Of(y)) {
					t.Fatal(d, y)
				}
				break
			}
		}
	}
	if x, y, _ := Minus(13); text(x) != "18" || text(y) != "5" {
		t.Error(text(x), text(y))
	}
	if x, y, _ := Minus(2); text(x) != "1" || text(y) != "1" {
		t.Error(text(x), text(y))
	}
}

// P7.4: period.
func TestPeriod(t *testing.T) {
	for _, d := range numbers() {
		period, e := Period(d)
		r := int(math.Sqrt(float64(d)))
		last := len(period) - 1
		if e != api.OK || slices.Index(period, 2*r) != last {
			t.Fatal(d, period, e)
		}
		for i := range last {
			if period[i] != period[last-1-i] {
				t.Fatal(d, period)
			}
		}
	}
	for d, want := range map[int][]int{2: {2}, 3: {1, 2}, 7: {1, 1, 1, 4}, 13: {1, 1, 1, 1, 6}, 999999: {1, 1998}} {
		if period, e := Period(d); !slices.Equal(period, want) || e != api.OK {
			t.Error(d, period, e)
		}
	}
}

// P7.5: steps.
func TestSteps(t *testing.T) {
	r := rand.New(rand.NewSource(1))
	for range 300 {
		list := numbers()
		d, m, n := list[r.Intn(len(list))], r.Intn(12), r.Intn(12)
		x1, y1, _ := Nth(d, m)
		x2, y2, _ := Nth(d, n)
		x, y, e := Nth(d, m+n)
		var c calc.Calc
		if !calc.Equal(x, c.Add(c.Mul(x1, x2), c.Mul(large.Of(d), c.Mul(y1, y2)))) || !calc.Equal(y, c.Add(c.Mul(x1, y2), c.Mul(x2, y1))) || e != api.OK {
			t.Fatal(d, m, n)
		}
	}
	if x, y, _ := Nth(7, 2); text(x) != "127" || text(y) != "48" {
		t.Error(text(x), text(y))
	}
	if x, y, _ := Nth(7, 0); text(x) != "1" || text(y) != "0" {
		t.Error(text(x), text(y))
	}
}

func TestLimits(t *testing.T) {
	// The greatest n for which Nth is valid: here 3 + 2 w is about 5.83.
	n := 0
	for step := 1 << 17; step > 0; step /= 2 {
		if _, _, e := Nth(2, n+step); e == api.OK {
			n += step
		} else if e != api.ErrSize {
			t.Fatal(e)
		}
	}
	if n != 51540 {
		t.Error(n)
	}
	x, y, _ := Nth(2, n)
	if m, e := Index(2, x, y); m != n || e != api.OK {
		t.Error(m, e)
	}
	if m, e := Index(2, x, x); m != 0 || e != api.ErrNone {
		t.Error(m, e)
	}
	most := api.Int{Words: slices.Repeat([]uint32{math.MaxUint32}, api.MaxWords)}
	if m, e := Index(2, most, y); m != 0 || e != api.ErrNone {
		t.Error(m, e)
	}
	if x, y, e := Nth(2, math.MaxInt); e != api.ErrSize || len(x.Words)+len(y.Words) > 0 {
		t.Error(e)
	}
}

func TestArguments(t *testing.T) {
	one, bad := large.Of(1), api.Int{Neg: true}
	for _, d := range []int{-5, 0, 1, 4, 9, 1000000, 1000001, 998001, math.MinInt, math.MaxInt} {
		period, e1 := Period(d)
		_, _, e2 := Least(d)
		_, _, e3 := Minus(d)
		_, _, e4 := Nth(d, 1)
		_, e5 := Index(d, bad, one)
		if len(period) > 0 || !reflect.DeepEqual([]api.Errno{e1, e2, e3, e4, e5}, slices.Repeat([]api.Errno{api.ErrArg}, 5)) {
			t.Error(d, e1, e2, e3, e4, e5)
		}
	}
	for _, n := range []int{-1, math.MinInt} {
		if _, _, e := Nth(2, n); e != api.ErrArg {
			t.Error(n, e)
		}
	}
	for _, l := range []struct {
		x, y api.Int
		e    api.Errno
	}{
		{bad, one, api.ErrForm}, {large.Of(-1), bad, api.ErrForm}, {large.Of(-1), api.Int{}, api.ErrArg}, {large.Of(3), large.Of(-2), api.ErrArg},
		{api.Int{}, api.Int{}, api.ErrNone}, {large.Of(3), large.Of(1), api.ErrNone}, {one, one, api.ErrNone}, {one, api.Int{}, api.OK},
	} {
		if n, e := Index(2, l.x, l.y); e != l.e || n != 0 {
			t.Error(l, n, e)
		}
	}
}
