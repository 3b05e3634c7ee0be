package poly

import (
	"strconv"
	"strings"

	"arithmancy/api"
	"arithmancy/calc"
	"arithmancy/large"
)

// Text returns the text of a polynomial.
func Text(p api.Poly) (string, api.Errno) {
	if !Valid(p) {
		return "", api.ErrForm
	}
	if len(p.Terms) == 0 {
		return "0", api.OK
	}
	var s strings.Builder
	for i, t := range p.Terms {
		if t.Coef.Neg {
			s.WriteByte('-')
		} else if i > 0 {
			s.WriteByte('+')
		}
		text, e := termText(t)
		if e != api.OK {
			return "", e
		}
		s.WriteString(text)
		if s.Len() > api.MaxText {
			return "", api.ErrSize
		}
	}
	return s.String(), api.OK
}

// termText returns the text of a term without its sign.
func termText(t api.Term) (string, api.Errno) {
	var factors []string
	size := calc.Size(t.Coef)
	if degree(t.Exps) == 0 || !calc.Equal(size, large.Of(1)) {
		s, e := large.Text(size)
		if e != api.OK {
			return "", e
		}
		factors = append(factors, s)
	}
	for i, e := range t.Exps {
		if e == 0 {
			continue
		}
		factor := "x" + strconv.Itoa(i)
		if e > 1 {
			factor += "^" + strconv.Itoa(e)
		}
		factors = append(factors, factor)
	}
	return strings.Join(factors, "*"), api.OK
}

// Parse returns the polynomial of a text.
func Parse(s string, vars int) (api.Poly, api.Errno) {
	if vars < 0 || vars > api.MaxVars {
		return api.Poly{}, api.ErrArg
	}
	if len(s) > api.MaxText {
		return api.Poly{}, api.ErrParse
	}
	p, ok := read(s, vars)
	if !ok || !Valid(p) {
		return api.Poly{}, api.ErrParse
	}
	// What is read may be written in another way, too: only its text belongs to the language.
	if text, e := Text(p); e != api.OK || text != s {
		return api.Poly{}, api.ErrParse
	}
	return p, api.OK
}

// read reads terms one after the other.
func read(s string, vars int) (api.Poly, bool) {
	p := api.Poly{Vars: vars}
	if s == "0" {
		return p, true
	}
	for first := true; first || s != ""; first = false {
		rest, neg := strings.CutPrefix(s, "-")
		if !neg {
			rest = strings.TrimPrefix(s, "+")
		}
		end := strings.IndexAny(rest, "+-")
		if end < 0 {
			end = len(rest)
		}
		t, ok := readTerm(rest[:end], vars)
		if !ok || len(p.Terms) == api.MaxTerms {
			return api.Poly{}, false
		}
		t.Coef.Neg = neg
		p.Terms = append(p.Terms, t)
		s = rest[end:]
	}
	return p, true
}

// readTerm reads a term without its sign.
func readTerm(s string, vars int) (api.Term, bool) {
	t := api.Term{Coef: large.Of(1), Exps: make([]int, vars)}
	for i, factor := range strings.Split(s, "*") {
		name, isVar := strings.CutPrefix(factor, "x")
		if !isVar {
			a, e := large.Parse(factor)
			if e != api.OK || i > 0 {
				return api.Term{}, false
			}
			t.Coef = a
			continue
		}
		index, exp, power := strings.Cut(name, "^")
		v, err := strconv.Atoi(index)
		if err != nil || v < 0 || v >= vars {
			return api.Term{}, false
		}
		t.Exps[v] = 1
		if !power {
			continue
		}
		if t.Exps[v], err = strconv.Atoi(exp); err != nil {
			return api.Term{}, false
		}
	}
	return t, true
}
