package register

import (
	"strconv"
	"strings"

	"arithmancy/api"
)

// letters are those of the instructions, in the order of their kinds.
const letters = "idjh"

// Text returns the text of a machine.
func Text(m api.Machine) (string, api.Errno) {
	if !Valid(m) {
		return "", api.ErrForm
	}
	words := []string{strconv.Itoa(m.Regs)}
	for _, n := range m.Code {
		word := letters[n.Op : n.Op+1]
		if n.Op != api.Halt {
			word += strconv.Itoa(n.Reg) + ">" + strconv.Itoa(n.Next)
		}
		if n.Op == api.Jump {
			word += ":" + strconv.Itoa(n.Zero)
		}
		words = append(words, word)
	}
	return strings.Join(words, " "), api.OK
}

// unread is what unwinds the reading of a word that is none.
type unread struct{}

// Parse returns the machine of a text.
func Parse(s string) (m api.Machine, e api.Errno) {
	defer func() {
		if recover() != nil {
			m, e = api.Machine{}, api.ErrParse
		}
	}()
	words := strings.Split(s, " ")
	m.Regs = number(words[0])
	for _, word := range words[1:] {
		if len(m.Code) == api.MaxCode {
			panic(unread{})
		}
		m.Code = append(m.Code, insn(word))
	}
	if !Valid(m) {
		panic(unread{})
	}
	return m, api.OK
}

// number reads a small natural number.
func number(s string) int {
	n, err := strconv.Atoi(s)
	if err != nil || strconv.Itoa(n) != s {
		panic(unread{})
	}
	return n
}

// insn reads an instruction.
func insn(s string) api.Insn {
	if s == "h" {
		return api.Insn{Op: api.Halt}
	}
	if s == "" {
		panic(unread{})
	}
	n := api.Insn{Op: strings.IndexByte(letters[:api.Halt], s[0])}
	reg, next, ok := strings.Cut(s[1:], ">")
	if !ok || n.Op < 0 {
		panic(unread{})
	}
	if n.Op == api.Jump {
		var zero string
		if next, zero, ok = strings.Cut(next, ":"); !ok {
			panic(unread{})
		}
		n.Zero = number(zero)
	}
	n.Reg, n.Next = number(reg), number(next)
	return n
}
