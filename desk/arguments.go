package desk

import (
	"slices"
	"strconv"
	"strings"

	"arithmancy/api"
	"arithmancy/large"
	"arithmancy/poly"
	"arithmancy/proof"
	"arithmancy/register"
)

// Kinds of arguments.
const (
	aNumber     = iota // a word
	aSmall             // a small number
	aPolynomial        // a word; the first small number is that of its variables
	aInputs            // the small numbers before the word m
	aMachine           // the word m and the words behind it
	aClaim             // all words that are left
)

// maxSmall is the greatest small number.
const maxSmall = 1000000

// arguments is the arguments of a command, those of each kind in order.
type arguments struct {
	numbers []api.Int
	smalls  []int
	poly    api.Poly
	inputs  []int
	machine api.Machine
	claim   api.Claim
}

// small returns a small number, and whether the word is one.
func small(word string) (int, bool) {
	n, err := strconv.Atoi(word)
	if err != nil || n < 0 || n > maxSmall || strconv.Itoa(n) != word {
		return 0, false
	}
	return n, true
}

// split splits words into arguments of these kinds. It reports whether there are as many as there have to be, and the small numbers are such.
func split(kinds []int, words []string) ([][]string, bool) {
	var parts [][]string
	for _, kind := range kinds {
		n := many(kind, words)
		if n < 0 || n > len(words) {
			return nil, false
		}
		part := words[:n]
		if (kind == aSmall || kind == aInputs) && !allSmall(part) {
			return nil, false
		}
		parts, words = append(parts, part), words[n:]
	}
	return parts, len(words) == 0
}

// many returns how many of the words that are left belong to an argument; -1 if there are too few.
func many(kind int, words []string) int {
	switch kind {
	case aInputs:
		return slices.Index(words, "m")
	case aMachine:
		if len(words) < 2 {
			return -1
		}
		return len(words)
	case aClaim:
		if len(words) < 1 {
			return -1
		}
		return len(words)
	}
	return 1
}

// allSmall reports whether all words are small numbers.
func allSmall(words []string) bool {
	return !slices.ContainsFunc(words, func(s string) bool {
		_, ok := small(s)
		return !ok
	})
}

// read reads the arguments.
func read(kinds []int, parts [][]string) (arguments, api.Errno) {
	var a arguments
	for i, kind := range kinds {
		if e := a.read(kind, parts[i]); e != api.OK {
			return arguments{}, e
		}
	}
	return a, api.OK
}

// read reads an argument.
func (a *arguments) read(kind int, words []string) api.Errno {
	e := api.OK
	switch kind {
	case aNumber:
		var n api.Int
		n, e = large.Parse(words[0])
		a.numbers = append(a.numbers, n)
	case aSmall:
		n, _ := small(words[0])
		a.smalls = append(a.smalls, n)
	case aPolynomial:
		a.poly, e = poly.Parse(words[0], a.smalls[0])
	case aInputs:
		for _, word := range words {
			n, _ := small(word)
			a.inputs = append(a.inputs, n)
		}
	case aMachine:
		a.machine, e = register.Parse(strings.Join(words[1:], " "))
	case aClaim:
		a.claim, e = proof.Parse(strings.Join(words, " "))
	}
	return e
}
