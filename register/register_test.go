package register

import (
	"math"
	"math/rand"
	"reflect"
	"slices"
	"strings"
	"testing"

	"arithmancy/api"
)

const adds = "2 j0>1:3 d0>2 i1>0 h"

func parsed(t *testing.T, s string) api.Machine {
	t.Helper()
	m, e := Parse(s)
	if e != api.OK {
		t.Fatalf("%q: %d", s, e)
	}
	return m
}

// random returns a random valid machine.
func random(r *rand.Rand) api.Machine {
	m := api.Machine{Regs: 1 + r.Intn(api.MaxRegs)}
	size := 2 + r.Intn(api.MaxCode-1)
	for i := range size {
		n := api.Insn{Op: r.Intn(api.InsnKinds)}
		if n.Op != api.Halt {
			n.Reg, n.Next = r.Intn(m.Regs), r.Intn(size)
		}
		if n.Op == api.Jump {
			n.Zero = r.Intn(size)
			if n.Next == i {
				n.Next = (i + 1) % size
			}
		}
		m.Code = append(m.Code, n)
	}
	return m
}

func randomState(r *rand.Rand, m api.Machine) api.State {
	c := api.State{At: r.Intn(len(m.Code))}
	for range m.Regs {
		c.Regs = append(c.Regs, r.Intn(3))
	}
	return c
}

// P13.1: parts.
func TestParts(t *testing.T) {
	r := rand.New(rand.NewSource(1))
	for range 500 {
		m := random(r)
		c := randomState(r, m)
		n, k := r.Intn(20), r.Intn(20)
		whole, steps, e := Run(m, c, n+k)
		first, done, f := Run(m, c, n)
		second, more, g := Run(m, first, k)
		if !reflect.DeepEqual(whole, second) || steps != done+more || e != api.OK || f != api.OK || g != api.OK {
			t.Fatal(m, c, n, k)
		}
		// And Run is Step, again and again.
		last, count := c, 0
		for count < n {
			next, e := Step(m, last)
			if e != api.OK {
				if e != api.ErrState {
					t.Fatal(e)
				}
				break
			}
			last, count = next, count+1
		}
		if !reflect.DeepEqual(last, first) || count != done {
			t.Fatal(m, c, n)
		}
	}
}

// P13.2: growth.
func TestGrowth(t *testing.T) {
	r := rand.New(rand.NewSource(2))
	for range 1000 {
		m := random(r)
		c := randomState(r, m)
		next, e := Step(m, c)
		if e != api.OK {
			n := m.Code[c.At]
			if e != api.ErrState || n.Op != api.Halt && (n.Op != api.Dec || c.Regs[n.Reg] > 0) {
				t.Fatal(m, c, e)
			}
			continue
		}
		changed := 0
		for i := range c.Regs {
			switch next.Regs[i] - c.Regs[i] {
			case 0:
			case 1, -1:
				changed++
			default:
				t.Fatal(m, c, next)
			}
		}
		if changed > 1 || !Fits(m, next) {
			t.Fatal(m, c, next)
		}
	}
}

// P13.3: names.
func TestNames(t *testing.T) {
	r := rand.New(rand.NewSource(3))
	for range 300 {
		m := random(r)
		c := randomState(r, m)
		names := r.Perm(m.Regs)
		other := api.Machine{Regs: m.Regs, Code: slices.Clone(m.Code)}
		for i := range other.Code {
			if other.Code[i].Op != api.Halt {
				other.Code[i].Reg = names[other.Code[i].Reg]
			}
		}
		renamed := func(c api.State) api.State {
			d := api.State{At: c.At, Regs: make([]int, m.Regs)}
			for i, n := range names {
				d.Regs[n] = c.Regs[i]
			}
			return d
		}
		last, steps, _ := Run(m, c, 30)
		got, done, e := Run(other, renamed(c), 30)
		if !reflect.DeepEqual(got, renamed(last)) || steps != done || e != api.OK {
			t.Fatal(m, c, names)
		}
	}
}

// P13.4: texts.
func TestTexts(t *testing.T) {
	r := rand.New(rand.NewSource(4))
	for range 500 {
		m := random(r)
		s, e := Text(m)
		if e != api.OK || !reflect.DeepEqual(parsed(t, s), m) {
			t.Fatal(s, e)
		}
	}
	for _, s := range []string{adds, "1 h", "4 i3>0", "1 j0>1:0 h", "1 d0>0", "2 h h h h h h h h h h h h h h i1>14"} {
		if back, e := Text(parsed(t, s)); back != s || e != api.OK {
			t.Error(s, back, e)
		}
	}
	for _, s := range []string{"", " ", "1", "0 h", "5 h", "h", "1 h ", " 1 h", "1  h", "01 h", "1 h0", "1 hh", "1 i0", "1 i0>", "1 i>0", "1 i1>0", "1 i0>1", "1 i0>0:0", "1 d0>0:", "1 j0>0:0", "1 j0>1 h", "1 j0>1: h", "1 j0>1:2 h", "1 i00>0", "1 i0>00", "1 i+0>0", "1 i-0>0", "1 I0>0", "1 i0>0h", "1 k0>0", "1 >0", "1\th", "1 h\n", "1 i0>9223372036854775808", "-1 h", "1 j0>1:0:0 h", "1 i0>>0", "1 ", "1 ж0>0", "1" + strings.Repeat(" h", 16)} {
		if m, e := Parse(s); e != api.ErrParse || !reflect.DeepEqual(m, api.Machine{}) {
			t.Errorf("%q: %d", s, e)
		}
	}
}

func TestExamples(t *testing.T) {
	steps, regs, e := Halts(parsed(t, adds), []int{2, 3}, 100)
	if steps != 7 || !slices.Equal(regs, []int{0, 5}) || e != api.OK {
		t.Error(steps, regs, e)
	}
	m := parsed(t, "1 d0>0")
	c, e := Start(m, []int{2})
	if e != api.OK {
		t.Fatal(e)
	}
	last, steps, e := Run(m, c, 100)
	if steps != 2 || last.Regs[0] != 0 || e != api.OK {
		t.Error(steps, last, e)
	}
	if _, e := Step(m, last); e != api.ErrState {
		t.Error(e)
	}
	if steps, regs, e := Halts(m, []int{2}, 100); e != api.ErrNone || steps != 0 || len(regs) > 0 {
		t.Error(steps, regs, e)
	}
}

func TestHalts(t *testing.T) {
	m := parsed(t, adds)
	for _, l := range []struct {
		input []int
		n     int
		steps int
		e     api.Errno
	}{
		{[]int{2, 3}, 7, 7, api.OK}, {[]int{2, 3}, 6, 0, api.ErrNone}, {[]int{0, 0}, 1, 1, api.OK}, {[]int{0, 0}, 0, 0, api.ErrNone}, {[]int{1000, 1000}, 1000000, 3001, api.OK},
		{[]int{2}, 7, 0, api.ErrArg}, {[]int{2, 3, 4}, 7, 0, api.ErrArg}, {[]int{2, -1}, 7, 0, api.ErrArg}, {[]int{1001, 0}, 7, 0, api.ErrArg}, {[]int{2, 3}, -1, 0, api.ErrArg}, {[]int{2, 3}, api.MaxSteps + 1, 0, api.ErrArg}, {nil, math.MinInt, 0, api.ErrArg},
	} {
		steps, regs, e := Halts(m, l.input, l.n)
		if e != l.e || steps != l.steps || e != api.OK && len(regs) > 0 || e == api.OK && regs[1] != l.input[0]+l.input[1] {
			t.Error(l, steps, regs, e)
		}
	}
	if steps, regs, e := Halts(parsed(t, "1 h"), []int{9}, 0); steps != 0 || !slices.Equal(regs, []int{9}) || e != api.OK {
		t.Error(steps, regs, e)
	}
	if _, _, e := Halts(parsed(t, "1 i0>0"), []int{9}, api.MaxSteps); e != api.ErrNone {
		t.Error(e)
	}
}

func TestJump(t *testing.T) {
	m := parsed(t, "1 j0>1:0 h")
	for _, l := range [][2]int{{0, 0}, {1, 1}} {
		next, e := Step(m, api.State{Regs: []int{l[0]}})
		if e != api.OK || next.At != l[1] || next.Regs[0] != l[0] {
			t.Error(l, next, e)
		}
	}
}

func TestLimits(t *testing.T) {
	m := parsed(t, "1 i0>0")
	most := api.State{Regs: []int{api.MaxCount}}
	if c, e := Step(m, most); e != api.ErrSize || !reflect.DeepEqual(c, api.State{}) {
		t.Error(c, e)
	}
	below := api.State{Regs: []int{api.MaxCount - 2}}
	if c, n, e := Run(m, below, 2); e != api.OK || n != 2 || c.Regs[0] != api.MaxCount {
		t.Error(c, n, e)
	}
	if c, n, e := Run(m, below, 3); e != api.ErrSize || n != 0 || !reflect.DeepEqual(c, api.State{}) {
		t.Error(c, n, e)
	}
	for _, n := range []int{-1, api.MaxSteps + 1, math.MaxInt} {
		if c, done, e := Run(m, below, n); e != api.ErrArg || done != 0 || !reflect.DeepEqual(c, api.State{}) {
			t.Error(n, e)
		}
	}
	if c, n, e := Run(m, below, 0); e != api.OK || n != 0 || !reflect.DeepEqual(c, below) {
		t.Error(c, n, e)
	}
}

func TestInvalid(t *testing.T) {
	code := func(list ...api.Insn) api.Machine { return api.Machine{Regs: 2, Code: list} }
	halt := api.Insn{Op: api.Halt}
	for name, m := range map[string]api.Machine{
		"zero":            {},
		"no registers":    {Code: []api.Insn{halt}},
		"five registers":  {Regs: 5, Code: []api.Insn{halt}},
		"no code":         {Regs: 1},
		"long code":       {Regs: 1, Code: slices.Repeat([]api.Insn{halt}, 16)},
		"kind":            code(api.Insn{Op: api.InsnKinds}),
		"negative kind":   code(api.Insn{Op: -1}),
		"register":        code(api.Insn{Op: api.Inc, Reg: 2}),
		"negative":        code(api.Insn{Op: api.Dec, Reg: -1}),
		"next":            code(api.Insn{Op: api.Inc, Next: 1}),
		"negative next":   code(api.Insn{Op: api.Dec, Next: -1}),
		"Zero of Inc":     code(api.Insn{Op: api.Inc, Zero: 1}, halt),
		"Zero of Dec":     code(api.Insn{Op: api.Dec, Zero: 1}, halt),
		"jump to itself":  code(api.Insn{Op: api.Jump}),
		"Zero":            code(api.Insn{Op: api.Jump, Next: 1, Zero: 2}, halt),
		"register of h":   code(api.Insn{Op: api.Halt, Reg: 1}),
		"next of h":       code(api.Insn{Op: api.Halt, Next: 1}, halt),
		"zero of h":       code(api.Insn{Op: api.Halt, Zero: 1}, halt),
		"second is wrong": code(halt, api.Insn{Op: api.Inc, Next: 2}),
	} {
		c := api.State{Regs: make([]int, 2)}
		_, e1 := Start(m, nil)
		_, e2 := Step(m, c)
		_, _, e3 := Run(m, c, -1)
		_, _, e4 := Halts(m, nil, -1)
		s, e5 := Text(m)
		if Valid(m) || Fits(m, c) || e1 != api.ErrForm || e2 != api.ErrForm || e3 != api.ErrForm || e4 != api.ErrForm || e5 != api.ErrForm || s != "" {
			t.Error(name, e1, e2, e3, e4, e5)
		}
	}
	m := parsed(t, adds)
	for _, c := range []api.State{{At: -1, Regs: []int{0, 0}}, {At: 4, Regs: []int{0, 0}}, {Regs: []int{0}}, {Regs: []int{0, 0, 0}}, {Regs: []int{0, -1}}, {Regs: []int{api.MaxCount + 1, 0}}, {}} {
		_, e1 := Step(m, c)
		_, _, e2 := Run(m, c, -1)
		if Fits(m, c) || e1 != api.ErrForm || e2 != api.ErrForm {
			t.Error(c, e1, e2)
		}
	}
	if !Fits(m, api.State{At: 3, Regs: []int{api.MaxCount, 0}}) {
		t.Error("fits")
	}
}

// Results are new memory, and arguments are not changed (R5).
func TestMemory(t *testing.T) {
	m := parsed(t, "1 i0>1 h")
	input := []int{5}
	c, _ := Start(m, input)
	c.Regs[0] = 6
	next, _ := Step(m, c)
	last, _, _ := Run(m, c, 0)
	last.Regs[0], next.Regs[0] = 9, 9
	if input[0] != 5 || c.Regs[0] != 6 || c.At != 0 {
		t.Error(input, c)
	}
}
