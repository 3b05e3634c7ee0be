package tower

import (
	"math"
	"math/rand"
	"reflect"
	"slices"
	"strconv"
	"strings"
	"testing"

	"arithmancy/api"
	"arithmancy/define"
	"arithmancy/history"
	"arithmancy/large"
	"arithmancy/mask"
	"arithmancy/poly"
	"arithmancy/power"
	"arithmancy/register"
	"arithmancy/system"
)

func parsed(t *testing.T, s string, vars int) api.Poly {
	t.Helper()
	p, e := poly.Parse(s, vars)
	if e != api.OK {
		t.Fatalf("%q: %d", s, e)
	}
	return p
}

func link(t *testing.T, kind int, vars []int, texts ...string) api.Link {
	t.Helper()
	l := api.Link{Kind: kind, Vars: vars}
	for _, s := range texts {
		l.Polys = append(l.Polys, parsed(t, s, len(vars)))
	}
	return l
}

func numbers(ns ...int) []api.Int {
	var xs []api.Int
	for _, n := range ns {
		xs = append(xs, large.Of(n))
	}
	return xs
}

// write writes a link as a text.
func write(l api.Link) string {
	var words []string
	for _, n := range append([]int{l.Kind}, l.Vars...) {
		word, _ := large.Text(large.Of(n))
		words = append(words, word)
	}
	for _, p := range l.Polys {
		text, _ := poly.Text(p)
		words = append(words, text)
	}
	return strings.Join(words, " ")
}

// mixed returns a system with links of all kinds, some of the variables of which do not occur.
func mixed(t *testing.T) api.System {
	return api.System{Vars: 5, Links: []api.Link{
		link(t, api.LinkUnder, []int{0, 2, 4}, "x0", "x2+1"),
		link(t, api.LinkPower, []int{1, 2}, "x0+1", "x1", "x0^2+2*x0+1"),
		link(t, api.LinkEq, []int{0, 3}, "x0-x1"),
		link(t, api.LinkPsi, []int{1, 3}, "2", "x1", "x1"),
		link(t, api.LinkUnder, []int{3, 4}, "1", "x0"),
	}}
}

// solution is a solution of it.
func solution() []api.Int { return numbers(1, 1, 2, 1, 2) }

func TestRewrite(t *testing.T) {
	s := mixed(t)
	for kind, l := range map[int]struct {
		f          func(s api.System) (api.System, api.Errno)
		definition api.System
		values     []string // the equations of the values
	}{
		api.LinkUnder: {Unders, mask.Links(), []string{"0 0 5 x0-x1", "0 4 6 x0-x1+1", "0 15 -x0+1", "0 3 16 x0-x1"}},
		api.LinkPower: {Powers, power.Links(), []string{"0 1 5 x0-x1+1", "0 2 6 x0-x1", "0 1 7 x0^2+2*x0-x1+1"}},
		api.LinkPsi:   {Psis, define.Equations(), []string{"0 5 -x0+2", "0 3 6 x0-x1", "0 3 7 x0-x1"}},
	} {
		got, e := l.f(s)
		if e != api.OK || !system.Valid(got) {
			t.Fatal(kind, e)
		}
		var want []string
		vars, values := s.Vars, l.values
		for _, old := range s.Links {
			if old.Kind != kind {
				want = append(want, write(old))
				continue
			}
			n := len(old.Polys)
			want, values = append(want, values[:n]...), values[n:]
			for _, d := range l.definition.Links {
				d.Vars = slices.Clone(d.Vars)
				for i := range d.Vars {
					d.Vars[i] += vars
				}
				want = append(want, write(d))
			}
			vars += l.definition.Vars
		}
		var texts []string
		for _, l := range got.Links {
			texts = append(texts, write(l))
		}
		if !slices.Equal(texts, want) || got.Vars != vars {
			t.Error(kind, got.Vars, vars, strings.Join(texts, "\n"))
		}
	}
}

// P15.1: down. P15.2: up.
func TestUpAndDown(t *testing.T) {
	s, xs := mixed(t), solution()
	r := rand.New(rand.NewSource(1))
	if is, e := system.Holds(s, xs); !is || e != api.OK {
		t.Fatal(is, e)
	}
	for kind, f := range map[int]func(s api.System) (api.System, api.Errno){api.LinkUnder: Unders, api.LinkPower: Powers, api.LinkPsi: Psis} {
		rewritten, _ := f(s)
		ys, e := Extend(s, kind, xs)
		if e != api.OK || len(ys) != rewritten.Vars || !reflect.DeepEqual(ys[:len(xs)], xs) {
			t.Fatal(kind, e)
		}
		if is, e := system.Holds(rewritten, ys); !is || e != api.OK {
			t.Fatal(kind, is, e)
		}
		for range 3000 {
			other := slices.Clone(ys)
			for range 1 + r.Intn(3) {
				i := r.Intn(len(other))
				other[i], _ = large.Add(other[i], large.Of(r.Intn(4)))
			}
			if is, _ := system.Holds(rewritten, other); !is {
				continue
			}
			if is, e := system.Holds(s, other[:len(xs)]); !is || e != api.OK {
				t.Fatal(kind, other)
			}
		}
		first := ys
		for range 300 {
			other := numbers(r.Intn(3), r.Intn(3), r.Intn(3), r.Intn(3), r.Intn(4))
			is, _ := system.Holds(s, other)
			ys, e := Extend(s, kind, other)
			if is && e != api.OK || !is && (e != api.ErrNone || len(ys) > 0) {
				t.Fatal(kind, other, is, e)
			}
			if extended, _ := system.Holds(rewritten, append(other, first[5:]...)); extended && !is {
				t.Fatal(kind, other)
			}
		}
	}
}

// All the way down to equations, and up from a solution of them.
func TestAllTheWay(t *testing.T) {
	s := api.System{Vars: 3, Links: []api.Link{link(t, api.LinkPsi, []int{0, 1, 2}, "x0", "x1", "x2")}}
	xs := numbers(2, 3, 15)
	ys, e := Extend(s, api.LinkPsi, xs)
	down, f := Down(s)
	if e != api.OK || f != api.OK {
		t.Fatal(e, f)
	}
	if a, e := system.Value(down, ys); e != api.OK || len(a.Words) > 0 {
		t.Error(e)
	}
	ys[2] = large.Of(16)
	if a, e := system.Value(down, ys); e != api.OK || len(a.Words) == 0 {
		t.Error(e)
	}
}

// P15.3: kinds.
func TestKinds(t *testing.T) {
	count := func(s api.System, e api.Errno) api.Count {
		t.Helper()
		c, f := system.Counts(s)
		if e != api.OK || f != api.OK {
			t.Fatal(e, f)
		}
		return c
	}
	for _, s := range []api.System{mixed(t), {Vars: 2, Links: []api.Link{link(t, api.LinkUnder, []int{0, 1}, "x0", "x1")}}, {}} {
		old, under, power, psi, down := count(s, api.OK), count(Unders(s)), count(Powers(s)), count(Psis(s)), count(Down(s))
		check := func(got api.Count, want api.Count) {
			t.Helper()
			got.Degree = 0
			if got != want {
				t.Error(got, want)
			}
		}
		check(under, api.Count{Vars: old.Vars + 10*old.Under, Eq: old.Eq + 5*old.Under, Power: old.Power + 3*old.Under, Psi: old.Psi})
		check(power, api.Count{Vars: old.Vars + 10*old.Power, Eq: old.Eq + 8*old.Power, Psi: old.Psi + 2*old.Power, Under: old.Under})
		check(psi, api.Count{Vars: old.Vars + 16*old.Psi, Eq: old.Eq + 14*old.Psi, Power: old.Power, Under: old.Under})
		powers := old.Power + 3*old.Under
		psis := old.Psi + 2*powers
		check(down, api.Count{Vars: old.Vars + 10*old.Under + 10*powers + 16*psis, Eq: old.Eq + 5*old.Under + 8*powers + 14*psis})
	}
	s := api.System{Vars: 2, Links: []api.Link{link(t, api.LinkUnder, []int{0, 1}, "x0", "x1")}}
	one, _ := Unders(s)
	two, _ := Powers(one)
	three, _ := Psis(two)
	down, _ := Down(s)
	if one.Vars != 12 || two.Vars != 42 || three.Vars != 138 || !reflect.DeepEqual(three, down) {
		t.Error(one.Vars, two.Vars, three.Vars)
	}
}

// P15.4: machines.
func TestMachines(t *testing.T) {
	m, _ := register.Parse("1 h")
	s, _ := history.System(m, []int{0})
	xs, _ := history.Encode(m, []int{0}, 0)
	under, _ := Unders(s)
	ys, e := Extend(s, api.LinkUnder, xs)
	if e != api.OK {
		t.Fatal(e)
	}
	powers, _ := Powers(under)
	zs, e := Extend(under, api.LinkPower, ys)
	if e != api.OK {
		t.Fatal(e)
	}
	if is, e := system.Holds(powers, zs); !is || e != api.OK {
		t.Error(is, e)
	}
	down, e := Down(s)
	if c, _ := system.Counts(down); e != api.OK || c != (api.Count{Vars: 540, Eq: 449, Degree: 4}) {
		t.Error(c, e)
	}
	// Of the smaller numbers only those of the history make the equations of the first levels hold.
	r := rand.New(rand.NewSource(2))
	for range 500 {
		other := slices.Clone(zs)
		i := r.Intn(6)
		other[i], _ = large.Add(other[i], large.Of(1+r.Intn(3)))
		if is, _ := system.Holds(powers, other); is {
			t.Fatal(i)
		}
	}
	// Equations of a machine that does not stop: zeros everywhere are no solution.
	loop, _ := register.Parse("1 j0>1:0 h")
	s, _ = history.System(loop, []int{0})
	down, e = Down(s)
	if a, f := system.Value(down, make([]api.Int, down.Vars)); e != api.OK || f != api.OK || len(a.Words) == 0 {
		t.Error(e, f)
	}
}

func TestLimits(t *testing.T) {
	wide := make([]int, 32)
	var sum []string
	for i := range wide {
		wide[i] = i
		sum = append(sum, "x"+strconv.Itoa(i))
	}
	all := strings.Join(sum, "+")
	for _, l := range []struct {
		p string
		e api.Errno
	}{{all, api.ErrSize}, {strings.TrimSuffix(all, "+x31"), api.OK}} {
		s := api.System{Vars: 32, Links: []api.Link{link(t, api.LinkUnder, wide, "1", l.p)}}
		_, e1 := Unders(s)
		_, e2 := Down(s)
		_, e3 := Powers(s)
		if e1 != l.e || e2 != l.e || e3 != api.OK {
			t.Error(e1, e2, e3)
		}
	}
	// Too many terms.
	many := api.Poly{Vars: 2}
	for i := 76; i >= 0; i-- {
		for j := i; j >= 0; j-- {
			many.Terms = append(many.Terms, api.Term{Coef: large.Of(1), Exps: []int{j, i - j}})
		}
	}
	many.Terms = many.Terms[3:]
	if len(many.Terms) != api.MaxTerms || !poly.Valid(many) {
		t.Fatal(len(many.Terms))
	}
	s := api.System{Vars: 2, Links: []api.Link{{Kind: api.LinkUnder, Vars: []int{0, 1}, Polys: []api.Poly{many, many}}}}
	if got, e := Unders(s); e != api.ErrSize || !reflect.DeepEqual(got, api.System{}) {
		t.Error(e)
	}
	// Too many variables, or links.
	psi := link(t, api.LinkPsi, nil, "2", "1", "1")
	for _, l := range []struct {
		vars, psis, others int
		e                  api.Errno
	}{{0, 1250, 0, api.OK}, {1, 1250, 0, api.ErrSize}, {0, 1251, 0, api.ErrSize}, {0, 1000, 6000, api.OK}, {0, 1000, 6001, api.ErrSize}, {0, 0, 20000, api.OK}} {
		s := api.System{Vars: l.vars, Links: slices.Concat(slices.Repeat([]api.Link{psi}, l.psis), slices.Repeat([]api.Link{link(t, api.LinkEq, nil, "0")}, l.others))}
		if got, e := Psis(s); e != l.e || e == api.OK && !system.Valid(got) {
			t.Error(l, e)
		}
		xs, e := Extend(s, api.LinkPsi, make([]api.Int, l.vars))
		want := api.OK
		if l.vars+16*l.psis > api.MaxNames {
			want = api.ErrSize
		}
		if e != want || e != api.OK && len(xs) > 0 {
			t.Error(l, e)
		}
	}
}

func TestExtendErrors(t *testing.T) {
	huge, _ := large.Shift(large.Of(1), 70)
	power := api.System{Vars: 2, Links: []api.Link{link(t, api.LinkPower, []int{0, 1}, "x0", "x1", "1")}}
	under := api.System{Vars: 2, Links: []api.Link{link(t, api.LinkUnder, []int{0, 1}, "x0", "x1")}}
	psi := api.System{Vars: 2, Links: []api.Link{link(t, api.LinkPsi, []int{0}, "x0", "2", "2*x0")}}
	for i, l := range []struct {
		s    api.System
		kind int
		xs   []api.Int
		e    api.Errno
	}{
		{api.System{Vars: -1}, 9, nil, api.ErrForm},
		{power, 9, []api.Int{{Neg: true}}, api.ErrForm},
		{power, api.LinkEq, numbers(1, 1), api.ErrArg}, {power, api.LinkKinds, numbers(1, 1), api.ErrArg}, {power, -1, numbers(1, 1), api.ErrArg},
		{power, api.LinkPower, numbers(1), api.ErrArg}, {power, api.LinkPower, numbers(1, -1), api.ErrArg},
		{power, api.LinkPower, numbers(2, 1), api.ErrNone},
		{power, api.LinkPower, []api.Int{large.Of(1), huge}, api.ErrSize},
		{power, api.LinkPower, numbers(1, math.MaxInt), api.ErrSize},
		{power, api.LinkPower, numbers(1, 3), api.OK},
		{power, api.LinkUnder, numbers(1, 3), api.OK},
		{under, api.LinkUnder, []api.Int{huge, huge}, api.ErrSize}, {under, api.LinkUnder, []api.Int{{}, huge}, api.ErrSize}, {under, api.LinkUnder, numbers(1, 301), api.ErrSize}, {under, api.LinkUnder, numbers(0, 300), api.OK},
		{psi, api.LinkPsi, []api.Int{huge, {}}, api.ErrSize},
	} {
		xs, e := Extend(l.s, l.kind, l.xs)
		if e != l.e || e != api.OK && len(xs) > 0 {
			t.Error(i, e)
		}
	}
	most, _ := large.Shift(large.Of(1), 131071)
	if _, e := Extend(psi, api.LinkPsi, []api.Int{most, {}}); e != api.ErrSize {
		t.Error(e)
	}
}

func TestInvalid(t *testing.T) {
	bad := api.System{Vars: 1, Links: []api.Link{{Kind: api.LinkUnder, Vars: []int{1}}}}
	for i, f := range []func(s api.System) (api.System, api.Errno){Unders, Powers, Psis, Down} {
		if s, e := f(bad); e != api.ErrForm || !reflect.DeepEqual(s, api.System{}) {
			t.Error(i, e)
		}
	}
}

// Results are new memory (R5).
func TestMemory(t *testing.T) {
	s, xs := mixed(t), solution()
	before := write(s.Links[2])
	for _, f := range []func(s api.System) (api.System, api.Errno){Unders, Powers, Psis, Down} {
		r, _ := f(s)
		for _, l := range r.Links {
			for _, p := range l.Polys {
				for _, term := range p.Terms {
					term.Coef.Words[0]++
					if term.Coef.Words[0] > 9 {
						t.Fatal("links share memory")
					}
				}
			}
			for i := range l.Vars {
				l.Vars[i] = 0
			}
		}
	}
	ys, _ := Extend(s, api.LinkPsi, xs)
	ys[0].Words[0] = 9
	if write(s.Links[2]) != before || !reflect.DeepEqual(xs, solution()) {
		t.Error("shared memory")
	}
}
