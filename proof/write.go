package proof

import (
	"slices"
	"strconv"
	"strings"

	"arithmancy/api"
	"arithmancy/large"
)

// writer writes words, until there are too many.
type writer struct {
	text strings.Builder
}

// full reports whether the text is too long already.
func (w *writer) full() bool { return w.text.Len() > api.MaxText }

// word writes a word.
func (w *writer) word(s string) {
	if w.full() {
		return
	}
	if w.text.Len() > 0 {
		w.text.WriteByte(' ')
	}
	w.text.WriteString(s)
}

// int writes an int.
func (w *writer) int(n int) { w.word(strconv.Itoa(n)) }

// number writes a number, which is valid.
func (w *writer) number(a api.Int) {
	if w.full() {
		return
	}
	s, _ := large.Text(a)
	w.word(s)
}

// insn writes an instruction.
func (w *writer) insn(n api.Insn) {
	for _, field := range []int{n.Op, n.Reg, n.Next, n.Zero} {
		w.int(field)
	}
}

// term writes a term.
func (w *writer) term(t api.Term) {
	w.number(t.Coef)
	for _, e := range t.Exps {
		w.int(e)
	}
}

// bool writes 0 or 1.
func (w *writer) bool(is bool) {
	if is {
		w.int(1)
	} else {
		w.int(0)
	}
}

// writeList writes how many elements there are, and then each one.
func writeList[T any](w *writer, list []T, write func(x T)) {
	w.int(len(list))
	for _, x := range list {
		if w.full() {
			return
		}
		write(x)
	}
}

// Text returns the text of a claim.
func Text(c api.Claim) (string, api.Errno) {
	if !plain(c) {
		return "", api.ErrForm
	}
	uneven := func(t api.Term) bool { return len(t.Exps) != c.Poly.Vars }
	if c.Poly.Vars < 0 || c.Poly.Vars > api.MaxVars || slices.ContainsFunc(c.Poly.Terms, uneven) {
		return "", api.ErrArg
	}
	w := &writer{}
	w.claim(c)
	if w.full() {
		return "", api.ErrSize
	}
	return w.text.String(), api.OK
}

// claim writes the kind of a claim, and its fields.
func (w *writer) claim(c api.Claim) {
	used, _ := fieldsOf(c.Kind)
	w.int(c.Kind)
	if used.machine {
		w.int(c.Machine.Regs)
		writeList(w, c.Machine.Code, w.insn)
	}
	if used.input {
		writeList(w, c.Input, w.int)
	}
	if used.steps {
		w.int(c.Steps)
	}
	if used.poly {
		w.int(c.Poly.Vars)
		writeList(w, c.Poly.Terms, w.term)
	}
	if used.numbers {
		writeList(w, c.Numbers, w.number)
	}
	if used.natural {
		w.bool(c.Natural)
	}
	if used.reason {
		w.int(c.Reason.Kind)
		w.int(c.Reason.M)
	}
}
