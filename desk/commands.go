package desk

import (
	"strconv"

	"arithmancy/api"
	"arithmancy/four"
	"arithmancy/history"
	"arithmancy/large"
	"arithmancy/lucas"
	"arithmancy/none"
	"arithmancy/pell"
	"arithmancy/power"
	"arithmancy/proof"
	"arithmancy/register"
	"arithmancy/system"
	"arithmancy/tower"
)

// The places of A and M among the numbers of power.Witness.
const (
	placeA = 3
	placeM = 6
)

// command is the kinds of the arguments of a command, and what does it.
type command struct {
	kinds []int
	do    func(d *Desk, a arguments) ([]string, api.Errno)
}

// commands returns the commands by their names.
func commands() map[string]command {
	return map[string]command{
		"psi":     {[]int{aNumber, aSmall}, (*Desk).psi},
		"power":   {[]int{aNumber, aSmall}, (*Desk).power},
		"under":   {[]int{aNumber, aNumber}, (*Desk).under},
		"pell":    {[]int{aSmall}, (*Desk).pell},
		"squares": {[]int{aSmall, aSmall}, (*Desk).squares},
		"zero":    {[]int{aSmall, aSmall, aPolynomial}, (*Desk).zero},
		"reason":  {[]int{aSmall, aSmall, aPolynomial}, (*Desk).reason},
		"halts":   {[]int{aSmall, aInputs, aMachine}, (*Desk).halts},
		"size":    {[]int{aInputs, aMachine}, (*Desk).size},
		"claim":   {[]int{aClaim}, (*Desk).claim},
		"asked":   {nil, (*Desk).count},
	}
}

// numbers returns numbers as words.
func numbers(list ...api.Int) ([]string, api.Errno) {
	var words []string
	for _, a := range list {
		s, e := large.Text(a)
		if e != api.OK {
			return nil, e
		}
		words = append(words, s)
	}
	return words, api.OK
}

// ints returns ints as words.
func ints(list ...int) ([]string, api.Errno) {
	var words []string
	for _, n := range list {
		words = append(words, strconv.Itoa(n))
	}
	return words, api.OK
}

// yesOrNo returns the word for it.
func yesOrNo(is bool, e api.Errno) ([]string, api.Errno) {
	switch {
	case e != api.OK:
		return nil, e
	case is:
		return []string{"yes"}, api.OK
	}
	return []string{"no"}, api.OK
}

// psi returns an element of psi.
func (d *Desk) psi(a arguments) ([]string, api.Errno) {
	x, e := lucas.Psi(a.numbers[0], a.smalls[0])
	if e != api.OK {
		return nil, e
	}
	return numbers(x)
}

// power returns the numbers A and M, by which a power is defined.
func (d *Desk) power(a arguments) ([]string, api.Errno) {
	xs, e := power.Witness(a.numbers[0], a.smalls[0])
	if e != api.OK {
		return nil, e
	}
	return numbers(xs[placeA], xs[placeM])
}

// under tells whether a number is under another one.
func (d *Desk) under(a arguments) ([]string, api.Errno) {
	return yesOrNo(large.Under(a.numbers[0], a.numbers[1]))
}

// pell returns the least solution of an equation of Pell.
func (d *Desk) pell(a arguments) ([]string, api.Errno) {
	x, y, e := pell.Least(a.smalls[0])
	if e != api.OK {
		return nil, e
	}
	return numbers(x, y)
}

// squares returns the roots of squares with a sum.
func (d *Desk) squares(a arguments) ([]string, api.Errno) {
	roots, e := four.Squares(a.smalls[0], a.smalls[1])
	if e != api.OK {
		return nil, e
	}
	return ints(roots...)
}

// zero returns the first small zero of a polynomial.
func (d *Desk) zero(a arguments) ([]string, api.Errno) {
	xs, e := none.Zero(a.poly, a.smalls[1])
	if e != api.OK {
		return nil, e
	}
	return numbers(xs...)
}

// reason returns a reason why a polynomial has no zero.
func (d *Desk) reason(a arguments) ([]string, api.Errno) {
	r, e := none.Find(a.poly, a.smalls[1], false)
	if e != api.OK {
		return nil, e
	}
	return ints(r.Kind, r.M)
}

// halts returns after how many steps a machine stops, and the contents at the end.
func (d *Desk) halts(a arguments) ([]string, api.Errno) {
	steps, regs, e := register.Halts(a.machine, a.inputs, a.smalls[0])
	if e != api.OK {
		return nil, e
	}
	return ints(append([]int{steps}, regs...)...)
}

// size returns what the system of a machine consists of, and how large it is as equations.
func (d *Desk) size(a arguments) ([]string, api.Errno) {
	s, e := history.System(a.machine, a.inputs)
	if e != api.OK {
		return nil, e
	}
	c, e := system.Counts(s)
	if e != api.OK {
		return nil, e
	}
	down, e := tower.Down(s)
	if e != api.OK {
		return nil, e
	}
	all, e := system.Counts(down)
	if e != api.OK {
		return nil, e
	}
	return ints(c.Vars, c.Eq, c.Psi, c.Power, c.Under, c.Degree, all.Vars, all.Eq)
}

// claim tells whether a claim is proved.
func (d *Desk) claim(a arguments) ([]string, api.Errno) {
	return yesOrNo(proof.Check(a.claim))
}

// count returns how many commands have been answered.
func (d *Desk) count(a arguments) ([]string, api.Errno) {
	return ints(d.asked)
}
