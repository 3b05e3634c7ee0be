package proof

import (
	"math"
	"math/rand"
	"reflect"
	"slices"
	"strings"
	"testing"

	"arithmancy/api"
	"arithmancy/history"
	"arithmancy/large"
	"arithmancy/none"
	"arithmancy/poly"
	"arithmancy/register"
	"arithmancy/system"
)

func machine(t *testing.T, s string) api.Machine {
	t.Helper()
	m, e := register.Parse(s)
	if e != api.OK {
		t.Fatalf("%q: %d", s, e)
	}
	return m
}

func polynomial(t *testing.T, s string, vars int) api.Poly {
	t.Helper()
	p, e := poly.Parse(s, vars)
	if e != api.OK {
		t.Fatalf("%q: %d", s, e)
	}
	return p
}

func numbers(ns ...int) []api.Int {
	var xs []api.Int
	for _, n := range ns {
		xs = append(xs, large.Of(n))
	}
	return xs
}

func proved(t *testing.T, c api.Claim) bool {
	t.Helper()
	is, e := Check(c)
	if e != api.OK {
		t.Fatal(c, e)
	}
	return is
}

// claims returns some claims, most of which are proved.
func claims(t *testing.T) []api.Claim {
	var list []api.Claim
	for _, s := range []string{"1 h", "2 j0>1:3 d0>2 i1>0 h", "1 j0>1:2 d0>0 h"} {
		m := machine(t, s)
		input := []int{2, 3}[:m.Regs]
		c, e := Stops(m, input, 100)
		if e != api.OK {
			t.Fatal(e)
		}
		list = append(list, c, api.Claim{Kind: api.ClaimRuns, Machine: m, Input: input, Steps: 3})
	}
	return append(list,
		api.Claim{Kind: api.ClaimZero, Poly: polynomial(t, "x0^2-2*x1^2-1", 2), Numbers: numbers(3, -2)},
		api.Claim{Kind: api.ClaimZero, Poly: polynomial(t, "0", 0)},
		api.Claim{Kind: api.ClaimNone, Poly: polynomial(t, "x0^2-3", 1), Reason: api.None{Kind: api.NoModulo, M: 4}},
		api.Claim{Kind: api.ClaimNone, Poly: polynomial(t, "x0+1", 1), Natural: true, Reason: api.None{Kind: api.NoSign}},
		api.Claim{Kind: api.ClaimNone, Poly: polynomial(t, "x0+1", 1), Reason: api.None{Kind: -5, M: math.MinInt}},
		api.Claim{Kind: api.ClaimRuns, Machine: api.Machine{Regs: -3, Code: []api.Insn{{Op: 7, Reg: -1, Next: math.MaxInt, Zero: 5}}}, Input: []int{-7}, Steps: -1},
	)
}

func TestCheck(t *testing.T) {
	stuck := machine(t, "1 d0>0 h")
	adds := machine(t, "2 j0>1:3 d0>2 i1>0 h")
	zero := polynomial(t, "x0^2-2*x1^2-1", 2)
	mod := polynomial(t, "x0^2-3", 1)
	sign := polynomial(t, "x0+1", 1)
	for i, l := range []struct {
		c    api.Claim
		want bool
	}{
		{api.Claim{Kind: api.ClaimStops, Machine: machine(t, "1 h"), Input: []int{0}, Numbers: numbers(0, 2, 1, 1, 0, 0)}, true},
		{api.Claim{Kind: api.ClaimStops, Machine: machine(t, "1 h"), Input: []int{0}, Numbers: numbers(1, 2, 1, 1, 0, 0)}, false},
		{api.Claim{Kind: api.ClaimStops, Machine: machine(t, "1 h"), Input: []int{0}, Numbers: numbers(0, 2, 1, 1, 0)}, false},
		{api.Claim{Kind: api.ClaimStops, Machine: machine(t, "1 h"), Input: nil, Numbers: numbers(0, 2, 1, 1, 0, 0)}, false},
		{api.Claim{Kind: api.ClaimStops, Machine: machine(t, "1 h"), Input: []int{0}, Numbers: numbers(0, 2, 1, 1, 0, -1)}, false},
		{api.Claim{Kind: api.ClaimStops}, false},
		{api.Claim{Kind: api.ClaimRuns, Machine: adds, Input: []int{2, 3}, Steps: 6}, true},
		{api.Claim{Kind: api.ClaimRuns, Machine: adds, Input: []int{2, 3}, Steps: 7}, false},
		{api.Claim{Kind: api.ClaimRuns, Machine: adds, Input: []int{2, 3}, Steps: -1}, false},
		{api.Claim{Kind: api.ClaimRuns, Machine: adds, Input: []int{2}, Steps: 0}, false},
		{api.Claim{Kind: api.ClaimRuns, Machine: stuck, Input: []int{3}, Steps: api.MaxSteps}, true},
		{api.Claim{Kind: api.ClaimRuns, Machine: stuck, Input: []int{3}, Steps: api.MaxSteps + 1}, false},
		{api.Claim{Kind: api.ClaimRuns}, false},
		{api.Claim{Kind: api.ClaimZero, Poly: zero, Numbers: numbers(3, -2)}, true},
		{api.Claim{Kind: api.ClaimZero, Poly: zero, Numbers: numbers(3, 1)}, false},
		{api.Claim{Kind: api.ClaimZero, Poly: zero, Numbers: numbers(3)}, false},
		{api.Claim{Kind: api.ClaimZero, Poly: api.Poly{Vars: 1, Terms: []api.Term{{Exps: []int{1}}}}, Numbers: numbers(0)}, false},
		{api.Claim{Kind: api.ClaimZero}, true},
		{api.Claim{Kind: api.ClaimNone, Poly: mod, Reason: api.None{M: 4}}, true},
		{api.Claim{Kind: api.ClaimNone, Poly: mod, Reason: api.None{M: 3}}, false},
		{api.Claim{Kind: api.ClaimNone, Poly: mod, Reason: api.None{Kind: 7, M: 4}}, false},
		{api.Claim{Kind: api.ClaimNone, Poly: sign, Reason: api.None{Kind: api.NoSign}}, false},
		{api.Claim{Kind: api.ClaimNone, Poly: sign, Natural: true, Reason: api.None{Kind: api.NoSign}}, true},
		{api.Claim{Kind: api.ClaimNone, Poly: api.Poly{Vars: 40}, Reason: api.None{M: 4}}, false},
	} {
		if is := proved(t, l.c); is != l.want {
			t.Error(i, is)
		}
	}
	// A value that is too large is not 0.
	huge, _ := large.Shift(large.Of(1), 131000)
	if proved(t, api.Claim{Kind: api.ClaimZero, Poly: polynomial(t, "x0^2-x1^2", 2), Numbers: []api.Int{huge, huge}}) {
		t.Error("too large")
	}
}

// randomMachine returns a random valid machine.
func randomMachine(r *rand.Rand) api.Machine {
	for {
		m := api.Machine{Regs: 1 + r.Intn(2)}
		size := 2 + r.Intn(4)
		for range size {
			n := api.Insn{Op: r.Intn(api.InsnKinds)}
			if n.Op != api.Halt {
				n.Reg, n.Next = r.Intn(m.Regs), r.Intn(size)
			}
			if n.Op == api.Jump {
				n.Zero = r.Intn(size)
			}
			m.Code = append(m.Code, n)
		}
		if register.Valid(m) {
			return m
		}
	}
}

// P16.1: stops.
func TestStops(t *testing.T) {
	r := rand.New(rand.NewSource(1))
	stopped := 0
	for range 200 {
		m := randomMachine(r)
		input := []int{r.Intn(3), r.Intn(3)}[:m.Regs]
		steps, _, want := register.Halts(m, input, 30)
		c, e := Stops(m, input, 30)
		if e != want {
			t.Fatal(m, input, e, want)
		}
		if e != api.OK {
			if !reflect.DeepEqual(c, api.Claim{}) {
				t.Fatal(c)
			}
			continue
		}
		stopped++
		if n, _ := large.Small(c.Numbers[0]); !proved(t, c) || n != steps || c.Kind != api.ClaimStops {
			t.Fatal(m, input, n)
		}
		c.Numbers[0] = large.Of(steps + 1 + r.Intn(3))
		if proved(t, c) {
			t.Fatal(m, input)
		}
	}
	if stopped < 30 {
		t.Error(stopped)
	}
	m := machine(t, "1 h")
	for i, l := range []struct {
		m     api.Machine
		input []int
		n     int
		e     api.Errno
	}{{api.Machine{}, nil, 1, api.ErrForm}, {m, nil, 1, api.ErrArg}, {m, []int{1}, -1, api.ErrArg}, {machine(t, "1 i0>0"), []int{1}, 5, api.ErrNone}, {machine(t, "1 j0>1:2 d0>0 h"), []int{900}, 5000, api.ErrSize}} {
		if c, e := Stops(l.m, l.input, l.n); e != l.e || !reflect.DeepEqual(c, api.Claim{}) {
			t.Error(i, e)
		}
	}
	input := []int{5}
	c, _ := Stops(m, input, 1)
	c.Input[0], c.Machine.Code[0].Op = 9, 0
	if input[0] != 5 || m.Code[0].Op != api.Halt {
		t.Error("shared memory")
	}
}

// P16.2: no solution.
func TestNoSolution(t *testing.T) {
	r := rand.New(rand.NewSource(2))
	for range 200 {
		m := randomMachine(r)
		input := []int{r.Intn(3), r.Intn(3)}[:m.Regs]
		runs := api.Claim{Kind: api.ClaimRuns, Machine: m, Input: input, Steps: r.Intn(10)}
		list, e := history.Encode(m, input, 30)
		if e != api.OK {
			if !proved(t, runs) {
				t.Fatal(m, input)
			}
			continue
		}
		s, _ := history.System(m, input)
		is, _ := system.Holds(s, list)
		n, _ := large.Small(list[0])
		if proved(t, runs) == (is && n <= runs.Steps) {
			t.Fatal(m, input, n)
		}
	}
	for range 200 {
		p, _ := poly.Const(1, large.Of(r.Intn(9)-4))
		for e := range 2 {
			p, _ = poly.Add(p, api.Poly{Vars: 1, Terms: []api.Term{{Coef: large.Of(1 + r.Intn(5)), Exps: []int{e + 1}}}})
		}
		c := api.Claim{Kind: api.ClaimNone, Poly: p, Natural: r.Intn(2) == 0, Reason: api.None{M: 2 + r.Intn(6)}}
		if r.Intn(2) == 0 {
			c.Reason = api.None{Kind: api.NoSign}
		}
		if want, _ := none.Check(p, c.Reason, c.Natural); proved(t, c) != want {
			t.Fatal(c)
		}
		for x := -20; x <= 20; x++ {
			zero := api.Claim{Kind: api.ClaimZero, Poly: p, Numbers: numbers(x)}
			// P16.3: one side.
			if proved(t, c) && proved(t, zero) && (!c.Natural || x >= 0) {
				t.Fatal(c, x)
			}
		}
	}
}

// P16.3: one side.
func TestOneSide(t *testing.T) {
	m := machine(t, "1 j0>1:2 d0>0 h")
	for x := range 6 {
		stops, e := Stops(m, []int{x}, 100)
		if e != api.OK {
			t.Fatal(e)
		}
		for steps := range 20 {
			runs := api.Claim{Kind: api.ClaimRuns, Machine: m, Input: []int{x}, Steps: steps}
			n, _ := large.Small(stops.Numbers[0])
			if proved(t, runs) != (steps < n) || !proved(t, stops) {
				t.Error(x, steps)
			}
		}
	}
}

// same compares claims; a nil slice is the same as an empty one.
func same(a, b api.Claim) bool {
	s, e := Text(a)
	u, f := Text(b)
	return s == u && e == f && reflect.DeepEqual(a.Machine, b.Machine) && slices.Equal(a.Input, b.Input) && a.Steps == b.Steps && a.Natural == b.Natural && a.Reason == b.Reason && len(a.Numbers) == len(b.Numbers) && a.Poly.Vars == b.Poly.Vars
}

// P16.4: texts.
func TestTexts(t *testing.T) {
	for _, c := range claims(t) {
		s, e := Text(c)
		back, f := Parse(s)
		if e != api.OK || f != api.OK || !same(c, back) {
			t.Error(s, e, f)
		}
	}
	for _, s := range []string{
		"0 1 1 3 0 0 0 1 0 6 0 2 1 1 0 0", "3 1 2 1 2 -3 0 0 0 4", "0 0 0 0 0", "1 -4 0 0 -9223372036854775808", "1 1 1 3 0 0 0 2 7 -8 5", "2 0 0 0", "2 0 1 5 0", "2 2 1 0 -7 200 1 -100000000000000000000000000", "3 32 0 1 9 9", "2 0 3 1 1 1 0",
	} {
		c, e := Parse(s)
		if back, f := Text(c); e != api.OK || f != api.OK || back != s {
			t.Error(s, back, e, f)
		}
	}
	for _, s := range []string{
		"", " ", "4", "-1", "0", "0 1", "0 0 0 0", "0 0 0 0 0 0", "0 0 0 0 0 ", " 0 0 0 0 0", "0 0  0 0 0", "00 0 0 0 0", "0 -0 0 0 0", "0 0 -1 0 0", "0 0 0 -1 0", "0 0 0 0 -1", "0 +1 0 0 0", "0 0 1 0 0 0", "0 0 9223372036854775807 0 0", "0 9223372036854775808 0 0 0", "0 0 0 0 1 x", "0 0 0 0 1 -0", "0 0 0 0 1 01", "3 0 0 2 0 0", "3 0 0 -1 0 0", "3 33 0 0 0 0", "3 -1 0 0 0 0", "3 0 0 0 0", "3 0 0 0 0 0 0", "2 0 0 0\n", "2\t0 0 0", "2 0 1000000000000 0", "2 1 1 5 0", "1 0 0 0", "1 0 0 0 1e3", "1 0 0 0 0.0", "0 1 1 3 0 0 0 1 0 5 0 2 1 1 0 0",
	} {
		if c, e := Parse(s); e != api.ErrParse || !reflect.DeepEqual(c, api.Claim{}) {
			t.Errorf("%q: %d", s, e)
		}
	}
	if is, e := Parse("0 1 1 3 0 0 0 1 0 6 0 2 1 1 0 0"); e != api.OK || !proved(t, is) {
		t.Error(e)
	}
	if is, e := Parse("3 1 2 1 2 -3 0 0 0 4"); e != api.OK || !proved(t, is) {
		t.Error(e)
	}
}

// Texts of changed claims are read back as they are, or refused.
func TestChangedTexts(t *testing.T) {
	r := rand.New(rand.NewSource(3))
	for _, c := range claims(t) {
		s, _ := Text(c)
		for range 300 {
			b := []byte(s)
			for range 1 + r.Intn(2) {
				b[r.Intn(len(b))] = "0123 -9"[r.Intn(7)]
			}
			d, e := Parse(string(b))
			if e != api.OK {
				continue
			}
			if back, f := Text(d); f != api.OK || back != string(b) {
				t.Fatalf("%q %q %d", b, back, f)
			}
		}
	}
}

func TestTextErrors(t *testing.T) {
	long, _ := large.Parse(strings.Repeat("7", 30000))
	claim := func(list ...api.Int) api.Claim { return api.Claim{Kind: api.ClaimZero, Numbers: list} }
	ten := large.Of(10)
	for i, l := range []struct {
		c    api.Claim
		size int
		e    api.Errno
	}{
		// "2 0 0 1 " and the digits, or "2 0 0 2 " and so on.
		{claim(long), 30008, api.OK},
		{claim(long, long), 0, api.ErrSize},
		{claim(slices.Repeat([]api.Int{ten}, 19996)...), 59999, api.OK},
		{claim(append(slices.Repeat([]api.Int{ten}, 19995), large.Of(100))...), api.MaxText, api.OK},
		{claim(append(slices.Repeat([]api.Int{ten}, 19995), large.Of(1000))...), 0, api.ErrSize},
		{claim(slices.Repeat([]api.Int{long}, 100000)...), 0, api.ErrSize},
		{api.Claim{Kind: api.ClaimZero, Poly: api.Poly{Vars: 1, Terms: []api.Term{{}}}}, 0, api.ErrArg},
		{api.Claim{Kind: api.ClaimZero, Poly: api.Poly{Vars: 1, Terms: []api.Term{{Exps: []int{1, 2}}}}}, 0, api.ErrArg},
		{api.Claim{Kind: api.ClaimZero, Poly: api.Poly{Vars: -1}}, 0, api.ErrArg},
		{api.Claim{Kind: api.ClaimNone, Poly: api.Poly{Vars: 33}}, 0, api.ErrArg},
		{api.Claim{Kind: api.ClaimNone, Poly: api.Poly{Vars: 32}}, 12, api.OK},
	} {
		s, e := Text(l.c)
		if e != l.e || len(s) != l.size {
			t.Error(i, len(s), e)
		}
		if _, f := Parse(s); e == api.OK && f != api.OK {
			t.Error(i, f)
		}
	}
	s, _ := Text(claim(append(slices.Repeat([]api.Int{ten}, 19995), large.Of(100))...))
	if _, e := Parse(s + "0"); e != api.ErrParse {
		t.Error(e)
	}
}

func TestNotPlain(t *testing.T) {
	bad := api.Int{Words: []uint32{0}}
	m, p := machine(t, "1 h"), polynomial(t, "x0", 1)
	for name, c := range map[string]api.Claim{
		"kind":              {Kind: api.ClaimKinds},
		"negative":          {Kind: -1},
		"stops, steps":      {Kind: api.ClaimStops, Steps: 1},
		"stops, poly":       {Kind: api.ClaimStops, Poly: p},
		"stops, Vars":       {Kind: api.ClaimStops, Poly: api.Poly{Vars: 1}},
		"stops, natural":    {Kind: api.ClaimStops, Natural: true},
		"stops, reason":     {Kind: api.ClaimStops, Reason: api.None{M: 1}},
		"stops, number":     {Kind: api.ClaimStops, Numbers: []api.Int{bad}},
		"runs, numbers":     {Kind: api.ClaimRuns, Numbers: numbers(1)},
		"runs, poly":        {Kind: api.ClaimRuns, Poly: p},
		"runs, reason":      {Kind: api.ClaimRuns, Reason: api.None{Kind: 1}},
		"zero, machine":     {Kind: api.ClaimZero, Machine: m},
		"zero, Regs":        {Kind: api.ClaimZero, Machine: api.Machine{Regs: 1}},
		"zero, input":       {Kind: api.ClaimZero, Input: []int{0}},
		"zero, steps":       {Kind: api.ClaimZero, Steps: -1},
		"zero, natural":     {Kind: api.ClaimZero, Natural: true},
		"zero, coefficient": {Kind: api.ClaimZero, Poly: api.Poly{Terms: []api.Term{{Coef: bad}}}},
		"none, numbers":     {Kind: api.ClaimNone, Numbers: numbers(1)},
		"none, input":       {Kind: api.ClaimNone, Input: []int{1}},
		"none, steps":       {Kind: api.ClaimNone, Steps: 1},
		"none, machine":     {Kind: api.ClaimNone, Machine: m},
	} {
		is, e := Check(c)
		s, f := Text(c)
		if is || e != api.ErrForm || f != api.ErrForm || s != "" {
			t.Error(name, e, f)
		}
	}
}
