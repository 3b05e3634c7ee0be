package history

import (
	"math"
	"math/rand"
	"reflect"
	"slices"
	"strings"
	"testing"

	"arithmancy/api"
	"arithmancy/calc"
	"arithmancy/large"
	"arithmancy/poly"
	"arithmancy/register"
	"arithmancy/system"
)

const adds = "2 j0>1:3 d0>2 i1>0 h"

func parsed(t *testing.T, s string) api.Machine {
	t.Helper()
	m, e := register.Parse(s)
	if e != api.OK {
		t.Fatalf("%q: %d", s, e)
	}
	return m
}

func small(list []api.Int) []int {
	var ns []int
	for _, a := range list {
		n, _ := large.Small(a)
		ns = append(ns, n)
	}
	return ns
}

func holds(t *testing.T, m api.Machine, input []int, list []api.Int) bool {
	t.Helper()
	s, e := System(m, input)
	if e != api.OK {
		t.Fatal(e)
	}
	is, e := system.Holds(s, list)
	if e != api.OK && e != api.ErrSize {
		t.Fatal(e)
	}
	return is
}

// random returns a random valid machine with few instructions.
func random(r *rand.Rand) api.Machine {
	for {
		m := api.Machine{Regs: 1 + r.Intn(2)}
		size := 2 + r.Intn(4)
		for range size {
			n := api.Insn{Op: r.Intn(api.InsnKinds)}
			if n.Op != api.Halt {
				n.Reg, n.Next = r.Intn(m.Regs), r.Intn(size)
			}
			if n.Op == api.Jump {
				n.Zero = r.Intn(size)
			}
			m.Code = append(m.Code, n)
		}
		if register.Valid(m) {
			return m
		}
	}
}

// told returns the numbers that tell a list of states as if it were a run.
func told(m api.Machine, input []int, run []api.State) []api.Int {
	c := &calc.Calc{}
	z := sizesOf(m)
	list := make([]api.Int, z.vars())
	digits := len(run) + exponent(m, input)
	list[xs], list[xH] = large.Of(len(run)-1), c.Power(large.Of(2), digits-1)
	for t, state := range run {
		write(c, &list[xI], 1, t*digits)
		write(c, &list[z.moment(state.At)], 1, t*digits)
		for j, n := range state.Regs {
			write(c, &list[z.contents(j)], n, t*digits)
		}
	}
	for j, n := range run[len(run)-1].Regs {
		list[z.end(j)] = large.Of(n)
	}
	return list
}

// steps returns the states of a run of at most n steps, and whether it has stopped.
func steps(t *testing.T, m api.Machine, input []int, n int) ([]api.State, bool) {
	t.Helper()
	state, e := register.Start(m, input)
	if e != api.OK {
		t.Fatal(e)
	}
	run := []api.State{state}
	for range n {
		if state, e = register.Step(m, state); e != api.OK {
			break
		}
		run = append(run, state)
	}
	return run, m.Code[run[len(run)-1].At].Op == api.Halt
}

func TestSystem(t *testing.T) {
	s, e := System(parsed(t, adds), []int{2, 3})
	if e != api.OK || !system.Valid(s) || s.Vars != 11 {
		t.Fatal(e)
	}
	want := []string{
		"2: 0 1: 2 x0+9 x1",
		"2: 0 1 2: 2*x1 x0+1 2*x1*x2-x2+1",
		"0: 2 3 4 5 6: x0-x1-x2-x3-x4",
		"3: 2 3: x1 x0", "3: 2 4: x1 x0", "3: 2 5: x1 x0", "3: 2 6: x1 x0",
		"3: 3: 1 x0",
		"2: 0 1 6: 2*x1 x0 x2",
		"3: 1 2 7: x2 x0*x1-x1", "3: 1 2 8: x2 x0*x1-x1",
		"3: 1 3 4 6: 2*x0*x1 x2+x3", "3: 1 2 3 4 7: 2*x0*x2 2*x0*x1+x3-2*x4",
		"3: 1 4 5: 2*x0*x1 x2",
		"3: 1 3 5: 2*x0*x2 x1",
		"0: 1 2 4 7 9: 2*x0*x1*x4+2*x0*x2-2*x0*x3-x1*x4+x3+x4-2",
		"0: 1 2 5 8 10: 2*x0*x1*x4-2*x0*x2-2*x0*x3-x1*x4+x3+x4-3",
	}
	var got []string
	for _, l := range s.Links {
		var words []string
		for _, n := range append([]int{l.Kind}, l.Vars...) {
			word, _ := large.Text(large.Of(n))
			words = append(words, word)
		}
		words[0] += ":"
		words[len(words)-1] += ":"
		for _, p := range l.Polys {
			text, _ := poly.Text(p)
			words = append(words, text)
		}
		got = append(got, strings.Join(words, " "))
	}
	if !slices.Equal(got, want) {
		t.Error(strings.Join(got, "\n"))
	}
	// A Jump whose Zero is its Next, one to itself if the register is 0, and no Halt.
	s, _ = System(parsed(t, "1 j0>1:1 j0>0:1 i0>2"), []int{0})
	if c, _ := system.Counts(s); c != (api.Count{Vars: 8, Eq: 2, Power: 3, Under: 3 + 1 + 1 + 1 + 2 + 1, Degree: 3}) {
		t.Error(c)
	}
	if l := s.Links[7]; l.Kind != api.LinkPower || len(l.Vars) != 2 || len(l.Polys[2].Terms) > 0 {
		t.Error("sum of no Halts", l)
	}
}

// P14.1: there.
func TestThere(t *testing.T) {
	r := rand.New(rand.NewSource(1))
	stopped := 0
	for range 300 {
		m := random(r)
		input := make([]int, m.Regs)
		for j := range input {
			input[j] = r.Intn(4)
		}
		run, stops := steps(t, m, input, 40)
		list, e := Encode(m, input, 40)
		if !stops {
			if e != api.ErrNone || len(list) > 0 {
				t.Fatal(m, input, e)
			}
			continue
		}
		stopped++
		if e != api.OK || !holds(t, m, input, list) || !reflect.DeepEqual(list, told(m, input, run)) {
			t.Fatal(m, input, e)
		}
		// P14.2: back.
		back, e := Decode(m, input, list)
		if e != api.OK || !reflect.DeepEqual(back, run) {
			t.Fatal(m, input, e, back)
		}
	}
	if stopped < 50 {
		t.Error(stopped)
	}
}

// lists calls f with all lists of n states with contents up to most.
func lists(m api.Machine, n, most int, f func(run []api.State)) {
	var states []api.State
	for at := range m.Code {
		regs := make([]int, m.Regs)
		for {
			states = append(states, api.State{At: at, Regs: slices.Clone(regs)})
			j := 0
			for j < len(regs) && regs[j] == most {
				regs[j] = 0
				j++
			}
			if j == len(regs) {
				break
			}
			regs[j]++
		}
	}
	var fill func(run []api.State)
	fill = func(run []api.State) {
		if len(run) == n {
			f(run)
			return
		}
		for _, s := range states {
			fill(append(run[:len(run):len(run)], s))
		}
	}
	fill(nil)
}

// P14.2: back. Of all lists of states only the run of a machine that stops is a solution.
func TestOnlyRuns(t *testing.T) {
	r := rand.New(rand.NewSource(2))
	machines := []api.Machine{parsed(t, "1 h"), parsed(t, "1 j0>1:2 d0>0 h"), parsed(t, "1 j0>1:1 h"), parsed(t, "1 d0>1 h"), parsed(t, "1 i0>0"), parsed(t, "1 j0>1:0 h"), parsed(t, "2 i1>1 h")}
	for range 6 {
		machines = append(machines, random(r))
	}
	for _, m := range machines {
		for _, x := range []int{0, 1} {
			input := make([]int, m.Regs)
			input[0] = x
			for n := 1; n <= 3; n++ {
				if n == 3 && m.Regs*len(m.Code) > 4 {
					continue
				}
				run, stops := steps(t, m, input, n-1)
				lists(m, n, 2, func(list []api.State) {
					numbers := told(m, input, list)
					want := stops && reflect.DeepEqual(run, list)
					if back, e := Decode(m, input, numbers); want != (e == api.OK) || want && !reflect.DeepEqual(back, run) || !want && (e != api.ErrNone || len(back) > 0) {
						t.Fatal(m, input, e)
					}
				})
			}
		}
	}
}

// P14.3: one. No other numbers near a solution, and no small ones, are one.
func TestOne(t *testing.T) {
	r := rand.New(rand.NewSource(3))
	for _, text := range []string{adds, "1 h", "1 j0>1:2 d0>0 h", "2 i0>1 j1>2:3 d1>1 h"} {
		m := parsed(t, text)
		for range 20 {
			input := make([]int, m.Regs)
			for j := range input {
				input[j] = r.Intn(3)
			}
			list, e := Encode(m, input, 100)
			if e != api.OK {
				t.Fatal(text, e)
			}
			for range 40 {
				other := slices.Clone(list)
				for range 1 + r.Intn(2) {
					i := r.Intn(len(other))
					bit, _ := large.Shift(large.Of(1), r.Intn(large.Bits(other[i])+3))
					if r.Intn(2) == 0 && !calc.Less(other[i], bit) {
						other[i], _ = large.Sub(other[i], bit)
					} else {
						other[i], _ = large.Add(other[i], bit)
					}
				}
				if !reflect.DeepEqual(list, other) && holds(t, m, input, other) {
					t.Fatal(text, input, other)
				}
			}
		}
	}
	m, solutions := parsed(t, "1 h"), 0
	list := make([]api.Int, 6)
	for n := range 5 * 5 * 5 * 5 * 5 * 5 {
		for i := range list {
			list[i] = large.Of(n % 5)
			n /= 5
		}
		if holds(t, m, []int{1}, list) {
			solutions++
			if !slices.Equal(small(list), []int{0, 4, 1, 1, 1, 1}) {
				t.Error(small(list))
			}
		}
	}
	if solutions != 1 {
		t.Error(solutions)
	}
}

// P14.4: stops.
func TestStops(t *testing.T) {
	m := parsed(t, "1 j0>1:2 d0>0 h")
	for x := range 10 {
		list, e := Encode(m, []int{x}, 2*x+1)
		if n, _ := large.Small(list[0]); e != api.OK || n != 2*x+1 {
			t.Error(x, n, e)
		}
		if _, e := Encode(m, []int{x}, 2*x); e != api.ErrNone {
			t.Error(x, e)
		}
	}
}

func TestExamples(t *testing.T) {
	list, e := Encode(parsed(t, "1 h"), []int{0}, 0)
	if e != api.OK || !slices.Equal(small(list), []int{0, 2, 1, 1, 0, 0}) {
		t.Error(small(list), e)
	}
	list, e = Encode(parsed(t, "1 i0>1 h"), []int{0}, 5)
	if e != api.OK || !slices.Equal(small(list), []int{1, 8, 17, 1, 16, 16, 1}) {
		t.Error(small(list), e)
	}
}

func TestSizes(t *testing.T) {
	m := parsed(t, "1 j0>1:2 d0>0 h")
	// s = 2 x + 1 and e = x + 3: so (s + 1)(s + e + 1) is 98816 at first.
	for _, l := range []struct {
		x int
		e api.Errno
	}{{127, api.OK}, {200, api.ErrSize}, {1000, api.ErrSize}} {
		list, e := Encode(m, []int{l.x}, api.MaxSteps)
		if e != l.e || e != api.OK && len(list) > 0 || e == api.OK && !holds(t, m, []int{l.x}, list) {
			t.Error(l, e)
		}
	}
	// A long input, and a run as long as it may be with it.
	long := parsed(t, "4 i0>1 i0>2 i0>3 i0>4 i0>5 i0>6 i0>7 i0>8 i0>9 i0>10 i0>11 i0>12 i0>13 i0>14 h")
	input := []int{1000, 1000, 1000, 1000}
	list, e := Encode(long, input, 14)
	if e != api.OK {
		t.Fatal(e)
	}
	if run, e := Decode(long, input, list); e != api.OK || len(run) != 15 || run[14].Regs[0] != 1014 {
		t.Error(e)
	}
	// The machine stops after more steps than numbers have digits.
	slow := parsed(t, "3 j0>1:9 d0>2 j1>3:6 d1>4 i2>5 j2>2:2 j2>7:0 d2>8 i1>6 h")
	if _, e := Encode(slow, []int{1000, 1000, 0}, api.MaxSteps); e != api.ErrNone {
		t.Error(e)
	}
	if _, e := Encode(slow, []int{100, 100, 0}, api.MaxSteps); e != api.ErrSize {
		t.Error(e)
	}
}

func TestErrors(t *testing.T) {
	m, good := parsed(t, "1 h"), []api.Int{{}, large.Of(2), large.Of(1), large.Of(1), {}, {}}
	if _, e := Decode(m, []int{0}, good); e != api.OK {
		t.Fatal(e)
	}
	huge, _ := large.Shift(large.Of(1), 131071)
	tooLarge := slices.Clone(good)
	tooLarge[1], tooLarge[2] = huge, huge
	for i, l := range []struct {
		m     api.Machine
		input []int
		n     int
		list  []api.Int
		e     [3]api.Errno
	}{
		{api.Machine{}, nil, -1, nil, [3]api.Errno{api.ErrForm, api.ErrForm, api.ErrForm}},
		{m, nil, -1, []api.Int{{Neg: true}}, [3]api.Errno{api.ErrArg, api.ErrArg, api.ErrForm}},
		{m, []int{1001}, 1, good, [3]api.Errno{api.ErrArg, api.ErrArg, api.ErrArg}},
		{m, []int{-1}, 1, good, [3]api.Errno{api.ErrArg, api.ErrArg, api.ErrArg}},
		{m, []int{0, 0}, 1, good, [3]api.Errno{api.ErrArg, api.ErrArg, api.ErrArg}},
		{m, []int{0}, -1, good[:5], [3]api.Errno{api.OK, api.ErrArg, api.ErrArg}},
		{m, []int{0}, api.MaxSteps + 1, append(slices.Clone(good), api.Int{}), [3]api.Errno{api.OK, api.ErrArg, api.ErrArg}},
		{m, []int{0}, math.MaxInt, append(slices.Clone(good[:5]), large.Of(-1)), [3]api.Errno{api.OK, api.ErrArg, api.ErrArg}},
		{m, []int{1}, 0, good, [3]api.Errno{api.OK, api.OK, api.ErrNone}},
		{m, []int{0}, 0, tooLarge, [3]api.Errno{api.OK, api.OK, api.ErrNone}},
	} {
		s, e1 := System(l.m, l.input)
		list, e2 := Encode(l.m, l.input, l.n)
		run, e3 := Decode(l.m, l.input, l.list)
		if [3]api.Errno{e1, e2, e3} != l.e || e1 != api.OK && s.Vars != 0 || e2 != api.OK && len(list) > 0 || len(run) > 0 {
			t.Error(i, e1, e2, e3)
		}
	}
}
