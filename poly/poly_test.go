package poly

import (
	"math"
	"math/rand"
	"reflect"
	"strings"
	"testing"

	"arithmancy/api"
	"arithmancy/large"
)

func parsed(t *testing.T, s string, vars int) api.Poly {
	t.Helper()
	p, e := Parse(s, vars)
	if e != api.OK {
		t.Fatalf("%q: %d", s, e)
	}
	return p
}

func text(p api.Poly) string {
	s, _ := Text(p)
	return s
}

// random returns a polynomial with at most so many terms, with small exponents.
func random(r *rand.Rand, vars, terms int) api.Poly {
	p, _ := Const(vars, api.Int{})
	for range r.Intn(terms + 1) {
		t := api.Term{Coef: large.Of(r.Intn(9) + 1), Exps: make([]int, vars)}
		t.Coef.Neg = r.Intn(2) == 0
		if r.Intn(5) == 0 {
			t.Coef, _ = large.Shift(t.Coef, 70)
		}
		for i := range t.Exps {
			t.Exps[i] = r.Intn(3)
		}
		p, _ = Add(p, api.Poly{Vars: vars, Terms: []api.Term{t}})
	}
	return p
}

func randomNumbers(r *rand.Rand, n int) []api.Int {
	xs := make([]api.Int, n)
	for i := range xs {
		xs[i] = large.Of(r.Intn(2001) - 1000)
	}
	return xs
}

// must returns a function that fails on errors.
func must(t *testing.T) func(p api.Poly, e api.Errno) api.Poly {
	return func(p api.Poly, e api.Errno) api.Poly {
		t.Helper()
		if e != api.OK || !Valid(p) {
			t.Fatal(e, p)
		}
		return p
	}
}

// P2.1: ring.
func TestRing(t *testing.T) {
	r := rand.New(rand.NewSource(1))
	ok := must(t)
	same := func(law string, p, q api.Poly) {
		t.Helper()
		if text(p) != text(q) || p.Vars != q.Vars {
			t.Fatal(law, text(p), text(q))
		}
	}
	for range 200 {
		vars := r.Intn(4)
		p, q, s := random(r, vars, 6), random(r, vars, 6), random(r, vars, 6)
		same("order of a sum", ok(Add(p, q)), ok(Add(q, p)))
		same("order of a product", ok(Mul(p, q)), ok(Mul(q, p)))
		same("brackets of a sum", ok(Add(ok(Add(p, q)), s)), ok(Add(p, ok(Add(q, s)))))
		same("brackets of a product", ok(Mul(ok(Mul(p, q)), s)), ok(Mul(p, ok(Mul(q, s)))))
		same("distribution", ok(Mul(p, ok(Add(q, s)))), ok(Add(ok(Mul(p, q)), ok(Mul(p, s)))))
		same("Sub undoes Add", ok(Sub(ok(Add(p, q)), q)), p)
		if d := ok(Sub(p, p)); len(d.Terms) > 0 {
			t.Fatal("not 0", text(d))
		}
	}
}

// P2.2: value.
func TestValue(t *testing.T) {
	r := rand.New(rand.NewSource(2))
	ok := must(t)
	eval := func(p api.Poly, xs []api.Int) api.Int {
		t.Helper()
		a, e := Eval(p, xs)
		if e != api.OK {
			t.Fatal(e)
		}
		return a
	}
	same := func(what string, a, b api.Int) {
		t.Helper()
		if !reflect.DeepEqual(a, b) {
			t.Fatal(what, a, b)
		}
	}
	for range 300 {
		vars := r.Intn(4) + 1
		p, q, xs := random(r, vars, 5), random(r, vars, 5), randomNumbers(r, vars)
		a, b := eval(p, xs), eval(q, xs)
		sum, _ := large.Add(a, b)
		same("sum", eval(ok(Add(p, q)), xs), sum)
		difference, _ := large.Sub(a, b)
		same("difference", eval(ok(Sub(p, q)), xs), difference)
		product, _ := large.Mul(a, b)
		same("product", eval(ok(Mul(p, q)), xs), product)
		n := r.Intn(4)
		power, _ := large.Power(a, n)
		same("power", eval(ok(Power(p, n)), xs), power)
		i := r.Intn(vars)
		put := eval(ok(Put(p, i, q)), xs)
		xs[i] = b
		same("Put", put, eval(p, xs))
	}
}

func TestEval(t *testing.T) {
	p := parsed(t, "3*x0^2*x1-x0+5", 2)
	for _, l := range [][3]int{{0, 0, 5}, {2, -1, -9}, {-1, 10, 36}} {
		a, e := Eval(p, []api.Int{large.Of(l[0]), large.Of(l[1])})
		if e != api.OK || !reflect.DeepEqual(a, large.Of(l[2])) {
			t.Error(l, a, e)
		}
	}
	for _, n := range []int{0, 1, 3} {
		if a, e := Eval(p, make([]api.Int, n)); e != api.ErrArg || len(a.Words) > 0 {
			t.Error(n, e)
		}
	}
	if _, e := Eval(p, []api.Int{{Neg: true}}); e != api.ErrForm {
		t.Error(e)
	}
	huge, _ := large.Shift(large.Of(1), 100000)
	if a, e := Eval(p, []api.Int{huge, large.Of(1)}); e != api.ErrSize || len(a.Words) > 0 {
		t.Error(e)
	}
	// A term is 0 if one of its numbers is, whatever the powers of the others.
	if a, e := Eval(parsed(t, "x0^5*x1+1", 2), []api.Int{huge, {}}); e != api.OK || !reflect.DeepEqual(a, large.Of(1)) {
		t.Error(a, e)
	}
	if a, e := Eval(api.Poly{}, nil); e != api.OK || len(a.Words) > 0 {
		t.Error(a, e)
	}
}

// P2.3: text.
func TestText(t *testing.T) {
	r := rand.New(rand.NewSource(3))
	for range 300 {
		p := random(r, r.Intn(5), 7)
		q := parsed(t, text(p), p.Vars)
		if !reflect.DeepEqual(p, q) && len(p.Terms) > 0 {
			t.Fatal(text(p), text(q))
		}
	}
	for _, s := range []string{"0", "1", "-1", "x0", "-x0+1", "x0^2-2*x0*x1+x1^2", "-12*x1^3*x2+x0-7", "x2^120", "x0*x1+x0*x2+x1^2-x1+100000000000000000000"} {
		p := parsed(t, s, 3)
		if back, e := Text(p); back != s || e != api.OK || p.Vars != 3 {
			t.Error(s, back, e)
		}
	}
	for _, s := range []string{"", "1-x0", "+x0", "x0+", "x0++1", "-0", "0*x0", "1*x0", "-1*x0", "x0*2", "x0^1", "x0^0", "x0^01", "x00", "x3", "x", "x-1", "x0x1", "x1*x0", "x0*x0", "x0+x0", "2+3", "x0^121", "x0^61*x1^60", "x0 +1", "x0^2+x0^2", "x0+x1^2", "x0+0", "x0^+2", "x+0", "y", "2x0", "x0^", "x0*", "*x0", "x0^9223372036854775808", "x0+01", "--x0", "x0+-1", "2**x0", "2*3*x0"} {
		if p, e := Parse(s, 3); e != api.ErrParse || len(p.Terms) > 0 || p.Vars != 0 {
			t.Errorf("%q: %d", s, e)
		}
	}
	if _, e := Parse("x0", 0); e != api.ErrParse {
		t.Error(e)
	}
	for _, vars := range []int{-1, api.MaxVars + 1, math.MinInt} {
		if p, e := Parse("?", vars); e != api.ErrArg || p.Vars != 0 {
			t.Error(vars, e)
		}
	}
}

func TestTextLimit(t *testing.T) {
	long := strings.Repeat("1", 39000)
	p := parsed(t, long+"*x0", 1)
	if s, e := Text(p); e != api.OK || len(s) != 39003 {
		t.Error(len(s), e)
	}
	a, _ := large.Parse(long[:api.MaxText-39003-1])
	constant, _ := Const(1, a)
	sum, _ := Add(p, constant)
	if s, e := Text(sum); e != api.OK || len(s) != api.MaxText {
		t.Error(len(s), e)
	}
	parsed(t, text(sum), 1)
	a, _ = large.Mul(a, large.Of(10))
	constant, _ = Const(1, a)
	sum, _ = Add(p, constant)
	if s, e := Text(sum); e != api.ErrSize || s != "" {
		t.Error(len(s), e)
	}
	if _, e := Parse(long+"*x0+"+long[:api.MaxText-39003], 1); e != api.ErrParse {
		t.Error(e)
	}
	if _, e := Parse(strings.Repeat("9", 39460)+"*x0", 1); e != api.ErrParse {
		t.Error("a coefficient that is too large:", e)
	}
}

// P2.4: degree.
func TestDegree(t *testing.T) {
	r := rand.New(rand.NewSource(4))
	for range 200 {
		vars := r.Intn(4)
		p, q := random(r, vars, 5), random(r, vars, 5)
		product, _ := Mul(p, q)
		want := Degree(p) + Degree(q)
		if Degree(p) < 0 || Degree(q) < 0 {
			want = -1
		}
		if Degree(product) != want {
			t.Fatal(text(p), text(q), Degree(product))
		}
	}
	for s, want := range map[string]int{"0": -1, "7": 0, "-x0+1": 1, "x0^119*x1-x0": 120} {
		if d := Degree(parsed(t, s, 2)); d != want {
			t.Error(s, d)
		}
	}
	if d := Degree(api.Poly{Vars: -1}); d != -1 {
		t.Error(d)
	}
}

// P2.5: one form. Polynomials in two variables with exponents up to 2 that agree at 3 times 3 points are equal.
func TestOneForm(t *testing.T) {
	r := rand.New(rand.NewSource(5))
	points := [][]api.Int{}
	for i := range 3 {
		for j := range 3 {
			points = append(points, []api.Int{large.Of(i), large.Of(j)})
		}
	}
	agree := func(p, q api.Poly) bool {
		for _, xs := range points {
			a, _ := Eval(p, xs)
			b, _ := Eval(q, xs)
			if !reflect.DeepEqual(a, b) {
				return false
			}
		}
		return true
	}
	for range 300 {
		p, q := random(r, 2, 3), random(r, 2, 3)
		sum, _ := Add(p, q)
		back, _ := Sub(sum, p)
		if agree(p, q) != (text(p) == text(q)) || !agree(back, q) || !reflect.DeepEqual(back.Terms, q.Terms) {
			t.Fatal(text(p), text(q))
		}
	}
}

func TestExamples(t *testing.T) {
	p := parsed(t, "x0-x1", 2)
	square, _ := Power(p, 2)
	if text(square) != "x0^2-2*x0*x1+x1^2" {
		t.Error(text(square))
	}
	if Degree(parsed(t, "-x0+1", 1)) != 1 {
		t.Error("degree")
	}
}

func TestConstAndVar(t *testing.T) {
	p, e := Const(3, large.Of(-5))
	if e != api.OK || text(p) != "-5" || p.Vars != 3 || !Valid(p) {
		t.Error(p, e)
	}
	p, e = Const(0, api.Int{})
	if e != api.OK || len(p.Terms) > 0 {
		t.Error(p, e)
	}
	p, e = Var(api.MaxVars, 31)
	if e != api.OK || text(p) != "x31" || !Valid(p) {
		t.Error(p, e)
	}
	for _, vars := range []int{-1, 33} {
		if p, e := Const(vars, large.Of(1)); e != api.ErrArg || !reflect.DeepEqual(p, api.Poly{}) {
			t.Error(vars, e)
		}
		if _, e := Const(vars, api.Int{Neg: true}); e != api.ErrForm {
			t.Error(vars, e)
		}
	}
	for _, l := range [][2]int{{-1, 0}, {33, 0}, {3, -1}, {3, 3}, {0, 0}, {math.MaxInt, 1}} {
		if p, e := Var(l[0], l[1]); e != api.ErrArg || !reflect.DeepEqual(p, api.Poly{}) {
			t.Error(l, e)
		}
	}
}

func TestPut(t *testing.T) {
	for _, l := range []struct {
		p    string
		i    int
		q    string
		want string
	}{
		{"x0^2+x1", 0, "x0-x1", "x0^2-2*x0*x1+x1^2+x1"},
		{"x0^2*x1-x0+4", 0, "0", "4"},
		{"x0^2*x1-x0+4", 1, "3", "3*x0^2-x0+4"},
		{"x1", 0, "x0^120", "x1"},
		{"0", 0, "x0", "0"},
		// In between there are degrees up to 130; they go away.
		{"-x0*x1^110+x0^2*x1^90", 0, "x1^20", "0"},
	} {
		p, e := Put(parsed(t, l.p, 2), l.i, parsed(t, l.q, 2))
		if e != api.OK || text(p) != l.want || !Valid(p) {
			t.Error(l, text(p), e)
		}
	}
	p := parsed(t, "x0^2", 2)
	for _, i := range []int{-1, 2, math.MaxInt} {
		if _, e := Put(p, i, p); e != api.ErrArg {
			t.Error(i, e)
		}
	}
	if _, e := Put(p, 0, parsed(t, "x1^61", 2)); e != api.ErrSize {
		t.Error(e)
	}
}

func TestWiden(t *testing.T) {
	p := parsed(t, "x0^2-x1+3", 2)
	for _, vars := range []int{2, 3, 32} {
		q, e := Widen(p, vars)
		if e != api.OK || q.Vars != vars || text(q) != text(p) || !Valid(q) {
			t.Error(vars, q, e)
		}
	}
	for _, vars := range []int{-1, 1, 33} {
		if q, e := Widen(p, vars); e != api.ErrArg || !reflect.DeepEqual(q, api.Poly{}) {
			t.Error(vars, q, e)
		}
	}
}

func TestPower(t *testing.T) {
	p := parsed(t, "x0-x1", 2)
	for n, want := range map[int]string{0: "1", 1: "x0-x1", 3: "x0^3-3*x0^2*x1+3*x0*x1^2-x1^3"} {
		q, e := Power(p, n)
		if e != api.OK || text(q) != want || q.Vars != 2 {
			t.Error(n, text(q), e)
		}
	}
	zero, _ := Const(1, api.Int{})
	minus, _ := Const(1, large.Of(-1))
	for _, l := range []struct {
		p    api.Poly
		n    int
		want string
	}{{zero, 0, "1"}, {zero, 1, "0"}, {zero, math.MaxInt, "0"}, {minus, math.MaxInt, "-1"}, {minus, 2, "1"}} {
		if q, e := Power(l.p, l.n); e != api.OK || text(q) != l.want {
			t.Error(l.n, text(q), e)
		}
	}
	if _, e := Power(p, -1); e != api.ErrArg {
		t.Error(e)
	}
	two, _ := Const(1, large.Of(2))
	for _, l := range []struct {
		p api.Poly
		n int
	}{{p, 121}, {p, math.MaxInt}, {two, math.MaxInt}, {parsed(t, "x0^61", 1), 2}} {
		if q, e := Power(l.p, l.n); e != api.ErrSize || !reflect.DeepEqual(q, api.Poly{}) {
			t.Error(l.n, e)
		}
	}
	if q, e := Power(parsed(t, "x0", 1), 120); e != api.OK || text(q) != "x0^120" {
		t.Error(text(q), e)
	}
}

// dense returns the sum of all products of powers up to x0^a and x1^b.
func dense(t *testing.T, a, b int) api.Poly {
	ok := must(t)
	p, q := parsed(t, "1", 2), parsed(t, "1", 2)
	for range a {
		p = ok(Add(ok(Mul(p, parsed(t, "x0", 2))), parsed(t, "1", 2)))
	}
	for range b {
		q = ok(Add(ok(Mul(q, parsed(t, "x1", 2))), parsed(t, "1", 2)))
	}
	return ok(Mul(p, q))
}

func TestLimits(t *testing.T) {
	p := dense(t, 59, 49)
	if len(p.Terms) != api.MaxTerms {
		t.Fatal(len(p.Terms))
	}
	if _, e := Add(p, parsed(t, "x0^60", 2)); e != api.ErrSize {
		t.Error(e)
	}
	if _, e := Mul(p, parsed(t, "x0+1", 2)); e != api.ErrSize {
		t.Error(e)
	}
	if q, e := Sub(p, p); e != api.OK || len(q.Terms) > 0 {
		t.Error(e)
	}
	// Many products, few terms.
	if q, e := Mul(dense(t, 30, 30), parsed(t, "x0-1", 2)); e != api.OK || len(q.Terms) != 62 {
		t.Error(e, len(q.Terms))
	}
	if _, e := Mul(parsed(t, "x0^60", 2), parsed(t, "x1^61", 2)); e != api.ErrSize {
		t.Error(e)
	}
	huge, _ := large.Shift(large.Of(1), 32*api.MaxWords-1)
	q, _ := Const(1, huge)
	for _, f := range []func(p, q api.Poly) (api.Poly, api.Errno){Add, Mul} {
		if r, e := f(q, q); e != api.ErrSize || !reflect.DeepEqual(r, api.Poly{}) {
			t.Error(e)
		}
	}
}

func TestInvalid(t *testing.T) {
	one := large.Of(1)
	term := func(coef api.Int, exps ...int) api.Term { return api.Term{Coef: coef, Exps: exps} }
	many := api.Poly{Vars: 2}
	for i := range 120 {
		for j := range 120 - i {
			many.Terms = append(many.Terms, term(one, i, j))
		}
	}
	bad := map[string]api.Poly{
		"negative Vars":     {Vars: -1},
		"too many Vars":     {Vars: 33},
		"coefficient 0":     {Vars: 1, Terms: []api.Term{term(api.Int{}, 1)}},
		"bad coefficient":   {Vars: 1, Terms: []api.Term{term(api.Int{Words: []uint32{1, 0}}, 1)}},
		"too few exponents": {Vars: 2, Terms: []api.Term{term(one, 1)}},
		"too many":          {Vars: 0, Terms: []api.Term{term(one, 0)}},
		"negative exponent": {Vars: 2, Terms: []api.Term{term(one, 2, -1)}},
		"degree":            {Vars: 2, Terms: []api.Term{term(one, 60, 61)}},
		"overflow":          {Vars: 2, Terms: []api.Term{term(one, math.MaxInt, math.MaxInt)}},
		"order of degrees":  {Vars: 1, Terms: []api.Term{term(one, 1), term(one, 2)}},
		"order of lists":    {Vars: 2, Terms: []api.Term{term(one, 0, 1), term(one, 1, 0)}},
		"twice the same":    {Vars: 1, Terms: []api.Term{term(one, 1), term(one, 1)}},
		"many terms":        many,
	}
	good := parsed(t, "x0+1", 1)
	other := parsed(t, "x0+1", 2)
	for name, p := range bad {
		errs := map[string]api.Errno{}
		_, errs["Add"] = Add(p, good)
		_, errs["Sub"] = Sub(good, p)
		_, errs["Mul"] = Mul(p, other)
		_, errs["Power"] = Power(p, -1)
		_, errs["Eval"] = Eval(p, nil)
		_, errs["Put"] = Put(good, -1, p)
		_, errs["Put of"] = Put(p, -1, good)
		_, errs["Widen"] = Widen(p, -1)
		_, errs["Text"] = Text(p)
		for f, e := range errs {
			if e != api.ErrForm {
				t.Error(name, f, e)
			}
		}
		if Valid(p) || Degree(p) != -1 {
			t.Error(name)
		}
	}
	for _, f := range []func(p, q api.Poly) (api.Poly, api.Errno){Add, Sub, Mul} {
		if p, e := f(good, other); e != api.ErrArg || !reflect.DeepEqual(p, api.Poly{}) {
			t.Error(e)
		}
	}
	if _, e := Put(good, 0, other); e != api.ErrArg {
		t.Error(e)
	}
}

// Results are new memory, and arguments are not changed (R5).
func TestMemory(t *testing.T) {
	p, zero := parsed(t, "3*x0^2-x0+5", 1), api.Poly{Vars: 1}
	before := text(p)
	one := parsed(t, "1", 1)
	for i, f := range []func() (api.Poly, api.Errno){
		func() (api.Poly, api.Errno) { return Add(p, zero) },
		func() (api.Poly, api.Errno) { return Add(zero, p) },
		func() (api.Poly, api.Errno) { return Sub(p, zero) },
		func() (api.Poly, api.Errno) { return Mul(p, one) },
		func() (api.Poly, api.Errno) { return Power(p, 1) },
		func() (api.Poly, api.Errno) { return Put(p, 0, parsed(t, "x0", 1)) },
		func() (api.Poly, api.Errno) { return Widen(p, 1) },
		func() (api.Poly, api.Errno) { return Const(1, p.Terms[0].Coef) },
	} {
		q, _ := f()
		for _, term := range q.Terms {
			term.Coef.Words[0] = 77
			term.Exps[0] = 9
		}
		if text(p) != before {
			t.Fatal(i, text(p))
		}
	}
	a, _ := Eval(parsed(t, "x0", 1), []api.Int{p.Terms[0].Coef})
	a.Words[0] = 99
	if text(p) != before {
		t.Fatal(text(p))
	}
}
