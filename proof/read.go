package proof

import (
	"strconv"
	"strings"

	"arithmancy/api"
	"arithmancy/large"
)

// missing is what unwinds the reading, when a word is missing or is not what it has to be.
type missing struct{}

// reader reads words.
type reader struct {
	words []string
}

// word reads a word.
func (r *reader) word() string {
	if len(r.words) == 0 {
		panic(missing{})
	}
	s := r.words[0]
	r.words = r.words[1:]
	return s
}

// int reads an int.
func (r *reader) int() int {
	s := r.word()
	n, err := strconv.Atoi(s)
	if err != nil || strconv.Itoa(n) != s {
		panic(missing{})
	}
	return n
}

// upTo reads an int from 0 to most.
func (r *reader) upTo(most int) int {
	n := r.int()
	if n < 0 || n > most {
		panic(missing{})
	}
	return n
}

// number reads a number.
func (r *reader) number() api.Int {
	a, e := large.Parse(r.word())
	if e != api.OK {
		panic(missing{})
	}
	return a
}

// insn reads an instruction.
func (r *reader) insn() api.Insn {
	var n api.Insn
	for _, field := range []*int{&n.Op, &n.Reg, &n.Next, &n.Zero} {
		*field = r.int()
	}
	return n
}

// poly reads a polynomial.
func (r *reader) poly() api.Poly {
	p := api.Poly{Vars: r.upTo(api.MaxVars)}
	p.Terms = readList(r, func() api.Term {
		t := api.Term{Coef: r.number()}
		for range p.Vars {
			t.Exps = append(t.Exps, r.int())
		}
		return t
	})
	return p
}

// readList reads how many elements there are, and then each one, which is at least a word.
func readList[T any](r *reader, read func() T) []T {
	var list []T
	for range r.upTo(len(r.words)) {
		list = append(list, read())
	}
	return list
}

// Parse returns the claim of a text.
func Parse(s string) (c api.Claim, e api.Errno) {
	defer func() {
		if recover() != nil {
			c, e = api.Claim{}, api.ErrParse
		}
	}()
	if len(s) > api.MaxText {
		return api.Claim{}, api.ErrParse
	}
	r := &reader{words: strings.Split(s, " ")}
	c = r.claim()
	if len(r.words) > 0 || !plain(c) {
		return api.Claim{}, api.ErrParse
	}
	return c, api.OK
}

// claim reads the kind of a claim, and its fields.
func (r *reader) claim() api.Claim {
	c := api.Claim{Kind: r.upTo(api.ClaimKinds - 1)}
	used, _ := fieldsOf(c.Kind)
	if used.machine {
		c.Machine.Regs = r.int()
		c.Machine.Code = readList(r, r.insn)
	}
	if used.input {
		c.Input = readList(r, r.int)
	}
	if used.steps {
		c.Steps = r.int()
	}
	if used.poly {
		c.Poly = r.poly()
	}
	if used.numbers {
		c.Numbers = readList(r, r.number)
	}
	if used.natural {
		c.Natural = r.upTo(1) == 1
	}
	if used.reason {
		c.Reason.Kind = r.int()
		c.Reason.M = r.int()
	}
	return c
}
