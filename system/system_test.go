package system

import (
	"math"
	"math/rand"
	"reflect"
	"testing"

	"arithmancy/api"
	"arithmancy/large"
	"arithmancy/poly"
)

func parsed(t *testing.T, s string, vars int) api.Poly {
	t.Helper()
	p, e := poly.Parse(s, vars)
	if e != api.OK {
		t.Fatalf("%q: %d", s, e)
	}
	return p
}

func link(t *testing.T, kind int, vars []int, texts ...string) api.Link {
	t.Helper()
	l := api.Link{Kind: kind, Vars: vars}
	for _, s := range texts {
		l.Polys = append(l.Polys, parsed(t, s, len(vars)))
	}
	return l
}

func numbers(ns ...int) []api.Int {
	var xs []api.Int
	for _, n := range ns {
		xs = append(xs, large.Of(n))
	}
	return xs
}

func shifted(n, by int) api.Int {
	a, _ := large.Shift(large.Of(n), by)
	return a
}

func text(p api.Poly) string {
	s, _ := poly.Text(p)
	return s
}

// three returns links of the kind whose polynomials are the variables 0, 1 and 2.
func three(t *testing.T, kind int) api.System {
	texts := []string{"x0", "x1", "x2"}[:polys(kind)]
	return api.System{Vars: 3, Links: []api.Link{link(t, kind, []int{0, 1, 2}, texts...)}}
}

func TestLinks(t *testing.T) {
	psi, power, under, equal := three(t, api.LinkPsi), three(t, api.LinkPower), three(t, api.LinkUnder), three(t, api.LinkEq)
	for _, l := range []struct {
		s    api.System
		xs   []api.Int
		want bool
	}{
		{psi, numbers(2, 4, 56), true}, {psi, numbers(2, 4, 57), false}, {psi, numbers(2, 3, 56), false}, {psi, numbers(2, 1, 1), true}, {psi, numbers(2, 0, 0), false}, {psi, numbers(1, 3, 3), false}, {psi, numbers(0, 1, 1), false},
		{psi, []api.Int{large.Of(2), shifted(1, 70), large.Of(1)}, false}, {psi, numbers(2, math.MaxInt, 7), false}, {psi, []api.Int{shifted(1, 130000), large.Of(2), shifted(1, 130001)}, true},
		{power, numbers(2, 10, 1024), true}, {power, numbers(2, 10, 1023), false}, {power, numbers(5, 0, 1), true}, {power, numbers(0, 0, 1), false}, {power, numbers(0, 3, 0), false}, {power, numbers(1, 9, 1), true}, {power, numbers(1, 9, 2), false},
		{power, []api.Int{large.Of(1), shifted(1, 70), large.Of(1)}, true}, {power, []api.Int{large.Of(2), shifted(1, 70), large.Of(1)}, false}, {power, numbers(2, math.MaxInt, 7), false}, {power, []api.Int{large.Of(2), large.Of(131071), shifted(1, 131071)}, true}, {power, []api.Int{large.Of(2), large.Of(131072), shifted(1, 131071)}, false},
		{under, numbers(5, 13, 0), true}, {under, numbers(2, 13, 0), false}, {under, numbers(0, 0, 9), true},
		{equal, numbers(0, 5, 5), true}, {equal, numbers(1, 0, 0), false},
	} {
		if is, e := Holds(l.s, l.xs); is != l.want || e != api.OK {
			t.Error(l.s.Links[0].Kind, l.xs[:2], is, e)
		}
	}
	// Negative values.
	for _, l := range []api.Link{
		link(t, api.LinkPower, []int{0}, "x0-3", "1", "x0-3"), link(t, api.LinkPower, []int{0}, "2", "x0-3", "1"), link(t, api.LinkPower, []int{0}, "1", "x0-3", "1"), link(t, api.LinkUnder, []int{0}, "x0-3", "7"), link(t, api.LinkUnder, []int{0}, "0", "x0-3"), link(t, api.LinkPsi, []int{0}, "2", "x0-3", "1"), link(t, api.LinkPsi, []int{0}, "2", "1", "x0-3"), link(t, api.LinkPsi, []int{0}, "x0-3", "1", "1"),
	} {
		if is, e := Holds(api.System{Vars: 1, Links: []api.Link{l}}, numbers(1)); is || e != api.OK {
			t.Error(l, is, e)
		}
	}
}

func TestExamples(t *testing.T) {
	s := api.System{Vars: 2, Links: []api.Link{link(t, api.LinkPower, []int{0, 1}, "2", "x0", "x1")}}
	if is, e := Holds(s, numbers(3, 8)); !is || e != api.OK {
		t.Error(is, e)
	}
	s = api.System{Vars: 2, Links: []api.Link{link(t, api.LinkEq, []int{0, 1}, "x0-x1"), link(t, api.LinkEq, []int{1}, "x0-2")}}
	if p, e := One(s); text(p) != "x0^2-2*x0*x1+2*x1^2-4*x1+4" || e != api.OK {
		t.Error(text(p), e)
	}
}

// equations returns a random system of equations with three variables.
func equations(t *testing.T, r *rand.Rand) api.System {
	s := api.System{Vars: 3}
	list := []api.Link{
		link(t, api.LinkEq, []int{0, 1}, "x0-x1"), link(t, api.LinkEq, []int{1, 2}, "x0*x1-x1"), link(t, api.LinkEq, []int{2}, "x0-1"), link(t, api.LinkEq, []int{0, 1, 2}, "x0^2+x1-x2-1"), link(t, api.LinkEq, nil, "0"), link(t, api.LinkEq, []int{0}, "0"),
	}
	for range r.Intn(4) {
		s.Links = append(s.Links, list[r.Intn(len(list))])
	}
	return s
}

// P9.1: one.
func TestOne(t *testing.T) {
	r := rand.New(rand.NewSource(1))
	solutions := 0
	for range 100 {
		s := equations(t, r)
		p, e := One(s)
		if e != api.OK || !poly.Valid(p) || p.Vars != 3 {
			t.Fatal(e)
		}
		for range 20 {
			xs := numbers(r.Intn(3), r.Intn(3), r.Intn(3))
			a, _ := poly.Eval(p, xs)
			is, e := Holds(s, xs)
			b, f := Value(s, xs)
			if is != (len(a.Words) == 0) || !reflect.DeepEqual(a, b) || e != api.OK || f != api.OK {
				t.Fatal(s, xs, is, a, b, e, f)
			}
			if is {
				solutions++
			}
		}
	}
	if solutions == 0 || solutions == 2000 {
		t.Error(solutions)
	}
	if p, e := One(api.System{Vars: 32}); e != api.OK || p.Vars != 32 || len(p.Terms) > 0 {
		t.Error(p, e)
	}
	// Value also knows systems with many variables.
	many := api.System{Vars: api.MaxNames, Links: []api.Link{link(t, api.LinkEq, []int{7, 19999}, "x0-x1+3")}}
	xs := make([]api.Int, api.MaxNames)
	xs[7] = large.Of(5)
	if a, e := Value(many, xs); e != api.OK || !reflect.DeepEqual(a, large.Of(64)) {
		t.Error(a, e)
	}
	if _, e := One(many); e != api.ErrSize {
		t.Error(e)
	}
}

// mixed returns a system with links of all kinds.
func mixed(t *testing.T, r *rand.Rand) api.System {
	s := equations(t, r)
	list := []api.Link{
		link(t, api.LinkUnder, []int{0, 2}, "x0", "x1"), link(t, api.LinkPower, []int{1, 2}, "2", "x0", "x1+1"), link(t, api.LinkPsi, []int{0, 1}, "2", "x0", "x1"), link(t, api.LinkPsi, []int{0, 1, 2}, "x0", "x1", "x2"),
	}
	for range r.Intn(3) {
		s.Links = append(s.Links, list[r.Intn(len(list))])
	}
	return s
}

// P9.2: join. P9.3: order.
func TestJoinAndOrder(t *testing.T) {
	r := rand.New(rand.NewSource(2))
	for range 200 {
		a, b := mixed(t, r), mixed(t, r)
		s, e := Join(a, b)
		if e != api.OK || len(s.Links) != len(a.Links)+len(b.Links) || s.Vars != 3 || !Valid(s) {
			t.Fatal(e)
		}
		turned := api.System{Vars: 3}
		for _, i := range r.Perm(len(s.Links)) {
			turned.Links = append(turned.Links, s.Links[i])
		}
		for range 20 {
			xs := numbers(r.Intn(5), r.Intn(4), r.Intn(6))
			first, _ := Holds(a, xs)
			second, _ := Holds(b, xs)
			both, e := Holds(s, xs)
			again, f := Holds(turned, xs)
			if both != (first && second) || both != again || e != api.OK || f != api.OK {
				t.Fatal(s, xs, first, second, both, again)
			}
		}
	}
	a := api.System{Vars: 1, Links: make([]api.Link, api.MaxLinks)}
	for i := range a.Links {
		a.Links[i] = link(t, api.LinkEq, nil, "0")
	}
	if s, e := Join(a, api.System{Vars: 1}); e != api.OK || len(s.Links) != api.MaxLinks {
		t.Error(e)
	}
	if s, e := Join(a, api.System{Vars: 1, Links: a.Links[:1]}); e != api.ErrSize || !reflect.DeepEqual(s, api.System{}) {
		t.Error(e)
	}
	if _, e := Join(a, api.System{Vars: 2}); e != api.ErrArg {
		t.Error(e)
	}
}

// P9.4: counts.
func TestCounts(t *testing.T) {
	s := api.System{Vars: 9, Links: []api.Link{
		link(t, api.LinkEq, []int{0, 8}, "x0^3*x1-1"), link(t, api.LinkEq, []int{1}, "x0"), link(t, api.LinkUnder, []int{0}, "x0^7", "1"), link(t, api.LinkPower, nil, "1", "1", "1"), link(t, api.LinkPower, nil, "1", "1", "1"), link(t, api.LinkPsi, nil, "1", "1", "1"),
	}}
	if c, e := Counts(s); e != api.OK || c != (api.Count{Vars: 9, Eq: 2, Psi: 1, Power: 2, Under: 1, Degree: 4}) {
		t.Error(c, e)
	}
	if c, e := Counts(api.System{Vars: 2, Links: []api.Link{link(t, api.LinkEq, nil, "0")}}); e != api.OK || c != (api.Count{Vars: 2, Eq: 1}) {
		t.Error(c, e)
	}
	if c, e := Counts(api.System{}); e != api.OK || c != (api.Count{}) {
		t.Error(c, e)
	}
	r := rand.New(rand.NewSource(3))
	for range 50 {
		s := equations(t, r)
		c, _ := Counts(s)
		p, _ := One(s)
		if c.Vars != 3 || c.Eq != len(s.Links) || poly.Degree(p) > 2*c.Degree {
			t.Fatal(s, c)
		}
	}
}

func TestErrors(t *testing.T) {
	equation := api.System{Vars: 2, Links: []api.Link{link(t, api.LinkEq, []int{0}, "x0^2")}}
	other := api.System{Vars: 2, Links: []api.Link{link(t, api.LinkUnder, []int{0, 1}, "x0", "x1")}}
	bad := api.Int{Neg: true}
	huge := shifted(1, 100000)
	for i, l := range []struct {
		s            api.System
		xs           []api.Int
		holds, value api.Errno
	}{
		{equation, numbers(1), api.ErrArg, api.ErrArg},
		{equation, numbers(1, 2, 3), api.ErrArg, api.ErrArg},
		{equation, numbers(1, -2), api.ErrArg, api.ErrArg},
		{equation, []api.Int{large.Of(-1), bad}, api.ErrForm, api.ErrForm},
		{other, numbers(1, 1), api.OK, api.ErrArg},
		{equation, []api.Int{huge, {}}, api.ErrSize, api.ErrSize},
		// Only the square is too large.
		{equation, []api.Int{shifted(1, 40000), {}}, api.OK, api.ErrSize},
	} {
		is, e := Holds(l.s, l.xs)
		a, f := Value(l.s, l.xs)
		if e != l.holds || f != l.value || f != api.OK && len(a.Words) > 0 || e != api.OK && is {
			t.Error(i, e, f)
		}
	}
	if p, e := One(other); e != api.ErrArg || !reflect.DeepEqual(p, api.Poly{}) {
		t.Error(e)
	}
	// A link that does not hold ends it, before one whose value is too large.
	links := []api.Link{link(t, api.LinkEq, []int{1}, "x0-1"), equation.Links[0], link(t, api.LinkUnder, []int{0}, "1", "x0^2")}
	for _, l := range []struct {
		links []api.Link
		e     api.Errno
	}{{links[:2], api.OK}, {links[1:], api.ErrSize}, {links[2:], api.ErrSize}} {
		if is, e := Holds(api.System{Vars: 2, Links: l.links}, []api.Int{huge, {}}); is || e != l.e {
			t.Error(is, e)
		}
	}
	for _, s := range []string{"x0^61", "x0^60*x1+1"} {
		if _, e := One(api.System{Vars: 2, Links: []api.Link{link(t, api.LinkEq, []int{0, 1}, s)}}); e != api.ErrSize {
			t.Error(e)
		}
	}
}

func TestInvalid(t *testing.T) {
	good := link(t, api.LinkEq, []int{0, 2}, "x0-x1")
	with := func(change func(l *api.Link)) api.System {
		l := good
		change(&l)
		return api.System{Vars: 3, Links: []api.Link{good, l}}
	}
	wide := make([]int, 33)
	for i := range wide {
		wide[i] = i
	}
	for name, s := range map[string]api.System{
		"negative Vars":  {Vars: -1},
		"many Vars":      {Vars: api.MaxNames + 1},
		"many links":     {Vars: 3, Links: make([]api.Link, api.MaxLinks+1)},
		"kind":           with(func(l *api.Link) { l.Kind = api.LinkKinds }),
		"negative kind":  with(func(l *api.Link) { l.Kind = -1 }),
		"two many polys": with(func(l *api.Link) { l.Polys = append(l.Polys, l.Polys[0]) }),
		"no polys":       with(func(l *api.Link) { l.Polys = nil }),
		"two for three":  with(func(l *api.Link) { l.Kind, l.Polys = api.LinkPower, append(l.Polys, l.Polys[0]) }),
		"three for two":  with(func(l *api.Link) { l.Kind, l.Polys = api.LinkUnder, append(l.Polys, l.Polys[0], l.Polys[0]) }),
		"one for three":  with(func(l *api.Link) { l.Kind = api.LinkPsi }),
		"falling":        with(func(l *api.Link) { l.Vars = []int{2, 0} }),
		"twice":          with(func(l *api.Link) { l.Vars = []int{1, 1} }),
		"out of range":   with(func(l *api.Link) { l.Vars = []int{1, 3} }),
		"negative":       with(func(l *api.Link) { l.Vars = []int{-1, 1} }),
		"few Vars":       with(func(l *api.Link) { l.Vars = []int{1} }),
		"many in a link": {Vars: 40, Links: []api.Link{{Vars: wide, Polys: []api.Poly{{Vars: 33}}}}},
		"invalid poly":   with(func(l *api.Link) { l.Polys = []api.Poly{{Vars: 2, Terms: []api.Term{{}}}} }),
	} {
		_, e1 := Counts(s)
		_, e2 := Holds(s, nil)
		_, e3 := Join(s, api.System{Vars: 7})
		_, e4 := Join(api.System{Vars: 7}, s)
		_, e5 := One(s)
		_, e6 := Value(s, nil)
		if Valid(s) || e1 != api.ErrForm || e2 != api.ErrForm || e3 != api.ErrForm || e4 != api.ErrForm || e5 != api.ErrForm || e6 != api.ErrForm {
			t.Error(name, e1, e2, e3, e4, e5, e6)
		}
	}
	if !Valid(api.System{Vars: 3, Links: []api.Link{good}}) || !Valid(api.System{}) {
		t.Error("valid")
	}
}

// Results are new memory (R5).
func TestMemory(t *testing.T) {
	a := api.System{Vars: 3, Links: []api.Link{link(t, api.LinkEq, []int{0, 2}, "x0-x1")}}
	s, _ := Join(a, a)
	p, _ := One(a)
	p.Terms[0].Coef.Words[0] = 9
	for _, l := range s.Links {
		l.Vars[0] = 1
		l.Polys[0].Terms[0].Coef.Words[0] = 9
		l.Polys[0].Terms[0].Exps[0] = 9
	}
	if l := a.Links[0]; l.Vars[0] != 0 || text(l.Polys[0]) != "x0-x1" {
		t.Error("shared memory")
	}
}
