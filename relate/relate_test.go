package relate

import (
	"math/rand"
	"reflect"
	"slices"
	"testing"

	"arithmancy/api"
	"arithmancy/calc"
	"arithmancy/large"
	"arithmancy/poly"
)

func parsed(t *testing.T, s string, vars int) api.Poly {
	t.Helper()
	p, e := poly.Parse(s, vars)
	if e != api.OK {
		t.Fatalf("%q: %d", s, e)
	}
	return p
}

// atom makes a formula of texts of polynomials.
func atom(t *testing.T, kind, n int, texts ...string) api.Formula {
	t.Helper()
	f := api.Formula{Kind: kind}
	for i, s := range texts {
		*[]*api.Poly{&f.A, &f.B, &f.M}[i] = parsed(t, s, n)
	}
	return f
}

func and(parts ...api.Formula) api.Formula { return api.Formula{Kind: api.FAnd, Parts: parts} }
func or(parts ...api.Formula) api.Formula  { return api.Formula{Kind: api.FOr, Parts: parts} }

func numbers(ns ...int) []api.Int {
	xs := []api.Int{}
	for _, n := range ns {
		xs = append(xs, large.Of(n))
	}
	return xs
}

func holds(t *testing.T, f api.Formula, ns ...int) bool {
	t.Helper()
	is, e := Holds(f, numbers(ns...))
	if e != api.OK {
		t.Fatal(f, ns, e)
	}
	return is
}

// checkWitness checks that the polynomial has a zero with these numbers, if the formula holds (P3.1).
func checkWitness(t *testing.T, f api.Formula, xs []api.Int) {
	t.Helper()
	is, e := Holds(f, xs)
	zs, found, e2 := Witness(f, xs)
	if e != api.OK || e2 != api.OK || is != found {
		t.Fatal(f, xs, is, found, e, e2)
	}
	p, e := Compile(f, len(xs))
	if e != api.OK || !poly.Valid(p) {
		t.Fatal(f, e)
	}
	if !found {
		if len(zs) > 0 {
			t.Fatal("numbers, but the formula does not hold")
		}
		return
	}
	for _, z := range zs {
		if z.Neg {
			t.Fatal("not natural", z)
		}
	}
	a, e := poly.Eval(p, append(append([]api.Int{}, xs...), zs...))
	if e != api.OK || len(a.Words) > 0 {
		t.Fatal("not a zero", f, xs, zs, a, e)
	}
}

// tables of what atoms mean for small values.
func meaning(kind, a, b, m int) bool {
	divides := func(a, b int) bool { return a == 0 && b == 0 || a != 0 && b%a == 0 }
	switch kind {
	case api.FEq:
		return a == b
	case api.FLe:
		return a <= b
	case api.FLt:
		return a < b
	case api.FNe:
		return a != b
	case api.FDiv:
		return divides(a, b)
	case api.FMod:
		return divides(m, a-b)
	case api.FSquare:
		for z := range 100 {
			if z*z == a {
				return true
			}
		}
		return false
	}
	for d := 2; d < 100; d++ {
		if divides(d, a) && divides(d, b) {
			return false
		}
	}
	return true
}

func atoms(t *testing.T) []api.Formula {
	var list []api.Formula
	for kind := range api.FSquare {
		texts := []string{"x0-4", "x1-3"}
		if kind == api.FMod {
			texts = append(texts, "x0+x1-5")
		}
		list = append(list, atom(t, kind, 2, texts...))
	}
	return append(list, atom(t, api.FSquare, 2, "x0+x1-2"), atom(t, api.FPrime, 2, "x0-4", "x1-3"))
}

func TestMeaning(t *testing.T) {
	for kind, f := range atoms(t) {
		for x := range 12 {
			for y := range 12 {
				a := x - 4
				if kind == api.FSquare {
					a = x + y - 2
				}
				if got := holds(t, f, x, y); got != meaning(kind, a, y-3, x+y-5) {
					t.Error(kind, x, y, got)
				}
			}
		}
	}
}

// P3.1: found.
func TestFound(t *testing.T) {
	for _, f := range atoms(t) {
		for x := range 9 {
			for y := range 9 {
				checkWitness(t, f, numbers(x, y))
			}
		}
	}
	r := rand.New(rand.NewSource(1))
	for range 300 {
		f := randomFormula(t, r, 3)
		if !Valid(f, 2) {
			continue
		}
		if _, e := Compile(f, 2); e == api.OK {
			checkWitness(t, f, numbers(r.Intn(10), r.Intn(10)))
		}
	}
}

func randomFormula(t *testing.T, r *rand.Rand, levels int) api.Formula {
	kind := r.Intn(api.FKinds)
	if kind >= api.FAnd && levels > 1 {
		f := api.Formula{Kind: kind}
		for range r.Intn(4) {
			f.Parts = append(f.Parts, randomFormula(t, r, levels-1))
		}
		return f
	}
	list := atoms(t)
	return list[r.Intn(len(list))]
}

// P3.2: only then. All further numbers up to a limit are tried.
func TestOnlyThen(t *testing.T) {
	list := []api.Formula{}
	for kind := range api.FPrime {
		texts := []string{"x0", "3", "x0-2"}[:rules()[kind].polys]
		list = append(list, atom(t, kind, 1, texts...))
	}
	list = append(list, atom(t, api.FPrime, 1, "x0", "6"), and(), or())
	first, second := list[api.FLe], list[api.FDiv]
	list = append(list, and(first, second), or(first, second), or(and(first, second), list[api.FSquare]), and(or(first, second), first))
	for _, f := range list {
		p, e := Compile(f, 1)
		if e != api.OK {
			t.Fatal(e)
		}
		for x := range 8 {
			if hasZero(t, p, numbers(x), 4) && !holds(t, f, x) {
				t.Error(f, x)
			}
			checkWitness(t, f, numbers(x))
		}
	}
}

// hasZero reports whether the polynomial has a zero with these numbers first and further numbers below a limit.
func hasZero(t *testing.T, p api.Poly, xs []api.Int, limit int) bool {
	if len(xs) == p.Vars {
		a, e := poly.Eval(p, xs)
		return e == api.OK && len(a.Words) == 0
	}
	for i := range limit {
		if hasZero(t, p, append(xs[:len(xs):len(xs)], large.Of(i)), limit) {
			return true
		}
	}
	return false
}

// P3.3: parts.
func TestParts(t *testing.T) {
	r := rand.New(rand.NewSource(2))
	for range 300 {
		f, g, h := randomFormula(t, r, 2), randomFormula(t, r, 2), randomFormula(t, r, 2)
		x, y := r.Intn(10), r.Intn(10)
		a, b, c := holds(t, f, x, y), holds(t, g, x, y), holds(t, h, x, y)
		if holds(t, and(f, g, h), x, y) != (a && b && c) || holds(t, or(f, g, h), x, y) != (a || b || c) {
			t.Fatal("parts", f, g, h)
		}
		if holds(t, and(f, g, h), x, y) != holds(t, and(h, f, g), x, y) || holds(t, or(f, g, h), x, y) != holds(t, or(g, h, f), x, y) {
			t.Fatal("order", f, g, h)
		}
	}
	if !holds(t, and(), 1) || holds(t, or(), 1) {
		t.Error("without parts")
	}
}

// P3.4: not.
func TestNot(t *testing.T) {
	for x := range 8 {
		for y := range 8 {
			le := holds(t, atom(t, api.FLe, 2, "x0", "x1"), x, y)
			lt := holds(t, atom(t, api.FLt, 2, "x1", "x0"), x, y)
			eq := holds(t, atom(t, api.FEq, 2, "x0", "x1"), x, y)
			ne := holds(t, atom(t, api.FNe, 2, "x0", "x1"), x, y)
			if le == lt || eq == ne {
				t.Error(x, y, le, lt, eq, ne)
			}
		}
	}
}

func TestExamples(t *testing.T) {
	p, e := Compile(atom(t, api.FDiv, 2, "x0", "x1"), 2)
	if s, _ := poly.Text(p); s != "x0*x2-x0*x3-x1" || e != api.OK {
		t.Error(s, e)
	}
	p, e = Compile(or(), 3)
	if s, _ := poly.Text(p); s != "1" || e != api.OK || p.Vars != 3 {
		t.Error(s, e)
	}
	p, e = Compile(and(), 0)
	if len(p.Terms) > 0 || e != api.OK {
		t.Error(p, e)
	}
}

// Small formulas are never too large to be compiled, and their further numbers never too large to be found.
func TestNeverTooLarge(t *testing.T) {
	big := "18446744073709551615"
	a, b, m := big+"*x0^2-"+big+"*x0*x1+"+big+"*x1^2", "-"+big+"*x0^2-"+big+"*x0-"+big, big+"*x0*x1+"+big+"*x1-"+big
	var list []api.Formula
	for kind := range api.FAnd {
		list = append(list, atom(t, kind, 2, []string{a, b, m}[:rules()[kind].polys]...))
	}
	most, _ := large.Parse(big)
	for _, f := range list {
		for _, g := range list {
			for _, h := range []api.Formula{and(f, g), or(f, g), f, and(g, or(), f, and())} {
				p, e := Compile(h, 2)
				if e != api.OK || !poly.Valid(p) {
					t.Fatal(h.Kind, f.Kind, g.Kind, e)
				}
				if _, _, e := Witness(h, []api.Int{most, most}); e != api.OK {
					t.Fatal(h.Kind, f.Kind, g.Kind, e)
				}
			}
		}
	}
}

func TestTooLarge(t *testing.T) {
	prime := atom(t, api.FPrime, 1, "x0", "5")
	six := and(prime, prime, prime, prime, prime, prime)
	if p, e := Compile(and(six, prime), 1); e != api.OK || p.Vars != 29 {
		t.Error(e, p.Vars)
	}
	for _, f := range []api.Formula{and(six, and(prime, prime)), atom(t, api.FNe, 1, "x0^61", "0"), and(atom(t, api.FEq, 1, "x0^61", "0"), prime)} {
		if p, e := Compile(f, 1); e != api.ErrSize || !reflect.DeepEqual(p, api.Poly{}) {
			t.Error(e)
		}
		if is, e := Holds(f, numbers(1)); e != api.OK || is != (f.Kind == api.FNe || len(f.Parts[0].Parts) > 0) {
			t.Error(is, e)
		}
		if zs, found, e := Witness(f, numbers(1)); e != api.ErrSize || found || len(zs) > 0 {
			t.Error(e)
		}
	}
	// Also a value that decides nothing may be too large.
	huge, _ := large.Shift(large.Of(1), 100000)
	square := atom(t, api.FSquare, 1, "x0^2")
	for _, f := range []api.Formula{square, or(and(), square), and(or(), square)} {
		if is, e := Holds(f, []api.Int{huge}); e != api.ErrSize || is {
			t.Error(is, e)
		}
		if _, _, e := Witness(f, []api.Int{huge}); e != api.ErrSize {
			t.Error(e)
		}
	}
}

// Further numbers are found if they are valid, also if something in between is not.
func TestLongest(t *testing.T) {
	var c calc.Calc
	half := c.Power(large.Of(2), 32*api.MaxWords-1)
	most := c.Add(half, c.Sub(half, large.Of(1)))
	root := c.Power(large.Of(2), 16*api.MaxWords)
	for _, l := range []struct {
		kind  int
		texts []string
		x, y  api.Int
		want  []api.Int
		is    bool
		e     api.Errno
	}{
		// The square of the difference is 2^131072.
		{api.FNe, []string{"x0", "x1"}, root, api.Int{}, []api.Int{most}, true, api.OK},
		{api.FNe, []string{"x0", "x1"}, api.Int{}, root, []api.Int{most}, true, api.OK},
		{api.FNe, []string{"x0", "x1"}, c.Add(root, large.Of(1)), api.Int{}, nil, true, api.ErrSize},
		{api.FNe, []string{"x0", "-x1"}, most, most, nil, true, api.ErrSize},
		{api.FNe, []string{"x0", "x1"}, most, most, nil, false, api.OK},
		{api.FLe, []string{"x0", "-x1"}, most, most, nil, false, api.OK},
		{api.FLe, []string{"-x0", "x1"}, most, large.Of(1), nil, true, api.ErrSize},
		{api.FLe, []string{"x0", "x1"}, api.Int{}, most, []api.Int{most}, true, api.OK},
		// The difference is 2^131072.
		{api.FLt, []string{"-x0", "x1"}, large.Of(1), most, []api.Int{most}, true, api.OK},
		{api.FLt, []string{"-x0", "x1"}, most, large.Of(1), []api.Int{most}, true, api.OK},
		{api.FLt, []string{"-x0", "x1"}, most, large.Of(2), nil, true, api.ErrSize},
		{api.FLt, []string{"x0", "-x1"}, most, most, nil, false, api.OK},
		{api.FMod, []string{"x0", "-x1", "2"}, half, half, []api.Int{half, {}}, true, api.OK},
		{api.FMod, []string{"x0", "-x1", "2"}, most, most, []api.Int{most, {}}, true, api.OK},
		{api.FMod, []string{"x0", "-x1", "-2"}, most, most, []api.Int{{}, most}, true, api.OK},
		{api.FMod, []string{"-x0", "x1", "2"}, most, most, []api.Int{{}, most}, true, api.OK},
		{api.FMod, []string{"x0", "-x1", "1"}, most, most, nil, true, api.ErrSize},
		{api.FMod, []string{"x0", "-x1", "2"}, most, c.Sub(most, large.Of(1)), nil, false, api.OK},
		{api.FMod, []string{"x0", "x1", "0"}, most, most, []api.Int{{}, {}}, true, api.OK},
		{api.FMod, []string{"x0", "-x1", "0"}, most, most, nil, false, api.OK},
	} {
		f, xs := atom(t, l.kind, 2, l.texts...), []api.Int{l.x, l.y}
		if is, e := Holds(f, xs); is != l.is || e != api.OK {
			t.Error(l.kind, l.texts, is, e)
		}
		zs, found, e := Witness(f, xs)
		if e != l.e || found != (l.is && e == api.OK) || !slices.EqualFunc(zs, l.want, calc.Equal) {
			t.Error(l.kind, l.texts, found, len(zs), e)
		}
	}
}

func TestInvalid(t *testing.T) {
	p, q := parsed(t, "x0", 1), parsed(t, "x0", 2)
	deep := atom(t, api.FSquare, 1, "x0")
	for range api.MaxDeep - 1 {
		deep = and(deep)
	}
	square := atom(t, api.FSquare, 1, "x0")
	four := and(square, square, square, square)
	if !Valid(deep, 1) || !Valid(and(four, four, four, four, four), 1) || !Valid(and(), 0) || !Valid(or(), 8) {
		t.Error("not valid")
	}
	own := []api.Formula{{Kind: api.FAnd}}
	own[0].Parts = own
	for name, f := range map[string]api.Formula{
		"kind":        {Kind: api.FKinds},
		"minus":       {Kind: -1},
		"no B":        {Kind: api.FEq, A: p},
		"Vars":        {Kind: api.FEq, A: p, B: q},
		"M":           {Kind: api.FEq, A: p, B: p, M: p},
		"no M":        {Kind: api.FMod, A: p, B: p},
		"B":           {Kind: api.FSquare, A: p, B: p},
		"parts":       {Kind: api.FSquare, A: p, Parts: []api.Formula{square}},
		"and with A":  {Kind: api.FAnd, A: p},
		"invalid":     {Kind: api.FSquare, A: api.Poly{Vars: 1, Terms: []api.Term{{}}}},
		"seven parts": and(square, square, square, square, square, square, square),
		"deep":        and(deep),
		"many atoms":  and(four, four, four, four, four, square),
		"own part":    own[0],
		"part":        or(square, api.Formula{Kind: api.FEq, A: p}),
	} {
		if Valid(f, 1) {
			t.Error(name)
		}
		_, e1 := Holds(f, []api.Int{large.Of(-1)})
		_, e2 := Compile(f, 1)
		_, _, e3 := Witness(f, numbers(1))
		if e1 != api.ErrForm || e2 != api.ErrForm || e3 != api.ErrForm {
			t.Error(name, e1, e2, e3)
		}
	}
	for _, n := range []int{-1, 9} {
		if _, e := Compile(and(), n); Valid(and(), n) || e != api.ErrForm {
			t.Error(n)
		}
	}
	if _, e := Holds(and(), make([]api.Int, 9)); e != api.ErrForm {
		t.Error(e)
	}
	for _, l := range []struct {
		x api.Int
		e api.Errno
	}{{large.Of(-1), api.ErrArg}, {api.Int{Neg: true}, api.ErrForm}} {
		_, e1 := Holds(square, []api.Int{l.x})
		_, _, e2 := Witness(square, []api.Int{l.x})
		if e1 != l.e || e2 != l.e {
			t.Error(e1, e2)
		}
	}
}
