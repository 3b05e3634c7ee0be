// Package history is layer 14: the run of a register machine as a solution of a system (Jones and Matiyasevich, 1984).
package history

import (
	"arithmancy/api"
	"arithmancy/kit"
	"arithmancy/register"
)

// The first variables; then come those of the instructions and of the registers.
const (
	xs = iota
	xH
	xI
	xL
)

// sizes is how many instructions and registers a machine has.
type sizes struct {
	insns, regs int
}

// sizesOf returns the sizes of a machine.
func sizesOf(m api.Machine) sizes { return sizes{len(m.Code), m.Regs} }

// moment, contents and end are the variables L_i, R_j and F_j; vars is how many variables there are.
func (z sizes) moment(i int) int   { return xL + i }
func (z sizes) contents(j int) int { return xL + z.insns + j }
func (z sizes) end(j int) int      { return xL + z.insns + z.regs + j }
func (z sizes) vars() int          { return xL + z.insns + 2*z.regs }

// exponent returns e: the number of instructions and the sum of the input.
func exponent(m api.Machine, input []int) int {
	e := len(m.Code)
	for _, x := range input {
		e += x
	}
	return e
}

// maker makes the system of a machine.
type maker struct {
	sizes
	kit.Kit
	m     api.Machine
	links []api.Link
}

// System returns the system of a machine and an input.
func System(m api.Machine, input []int) (api.System, api.Errno) {
	if _, e := register.Start(m, input); e != api.OK {
		return api.System{}, e
	}
	k := &maker{sizes: sizesOf(m), m: m}
	k.Vars = k.vars()
	k.frame(exponent(m, input))
	k.masks()
	for i := range m.Code {
		k.successors(i)
	}
	for j, x := range input {
		k.balance(j, x)
	}
	return api.System{Vars: k.Vars, Links: k.links}, k.Err
}

// link adds a link.
func (k *maker) link(kind int, polys ...api.Poly) {
	k.links = append(k.links, kit.Link(kind, polys...))
}

// base returns Q, next the polynomial Q p, which is p a step later.
func (k *maker) base() api.Poly              { return k.Mul(k.Int(2), k.Var(xH)) }
func (k *maker) next(p api.Poly) api.Poly    { return k.Mul(k.base(), p) }
func (k *maker) times(n int, i int) api.Poly { return k.Mul(k.Int(n), k.Var(i)) }

// sum returns the sum of L_i over all instructions that are chosen.
func (k *maker) sum(chosen func(n api.Insn) bool) api.Poly {
	sum := k.Int(0)
	for i, n := range k.m.Code {
		if chosen(n) {
			sum = k.Add(sum, k.Var(k.moment(i)))
		}
	}
	return sum
}

// behind returns 1 + (Q - 1) I, which is Q^(s + 1).
func (k *maker) behind() api.Poly {
	return k.Add(k.Int(1), k.Mul(k.Sub(k.base(), k.Int(1)), k.Var(xI)))
}

// frame adds the links 1 to 3.
func (k *maker) frame(e int) {
	k.link(api.LinkPower, k.Int(2), k.Add(k.Var(xs), k.Int(e)), k.Var(xH))
	k.link(api.LinkPower, k.base(), k.Add(k.Var(xs), k.Int(1)), k.behind())
	all := k.sum(func(n api.Insn) bool { return true })
	k.link(api.LinkEq, k.Sub(k.Var(xI), all))
}

// masks adds the links 4 to 7.
func (k *maker) masks() {
	for i := range k.insns {
		k.link(api.LinkUnder, k.Var(k.moment(i)), k.Var(xI))
	}
	k.link(api.LinkUnder, k.Int(1), k.Var(k.moment(0)))
	halts := k.sum(func(n api.Insn) bool { return n.Op == api.Halt })
	k.link(api.LinkPower, k.base(), k.Var(xs), halts)
	for j := range k.regs {
		k.link(api.LinkUnder, k.Var(k.contents(j)), k.Mul(k.Sub(k.Var(xH), k.Int(1)), k.Var(xI)))
	}
}

// successors adds the links 8 of an instruction.
func (k *maker) successors(i int) {
	n := k.m.Code[i]
	if n.Op == api.Halt {
		return
	}
	later, next := k.next(k.Var(k.moment(i))), k.Var(k.moment(n.Next))
	if n.Op != api.Jump || n.Next == n.Zero {
		k.link(api.LinkUnder, later, next)
		return
	}
	k.link(api.LinkUnder, later, k.Add(next, k.Var(k.moment(n.Zero))))
	k.link(api.LinkUnder, later, k.Sub(k.Add(next, k.next(k.Var(xI))), k.times(2, k.contents(n.Reg))))
}

// balance adds the link 9 of a register with its input.
func (k *maker) balance(j, x int) {
	ups := k.sum(func(n api.Insn) bool { return n.Op == api.Inc && n.Reg == j })
	downs := k.sum(func(n api.Insn) bool { return n.Op == api.Dec && n.Reg == j })
	contents := k.Var(k.contents(j))
	left := k.Add(contents, k.Mul(k.Var(k.end(j)), k.behind()))
	right := k.Add(k.Int(x), k.next(contents), k.next(k.Sub(ups, downs)))
	k.link(api.LinkEq, k.Sub(left, right))
}
