package kit

import (
	"testing"

	"arithmancy/api"
	"arithmancy/poly"
)

func TestChain(t *testing.T) {
	k := &Kit{Vars: 2}
	p := k.Sub(k.Mul(k.Add(k.Var(0), k.Int(1)), k.Var(1)), k.Int(3))
	if s, _ := poly.Text(p); s != "x0*x1+x1-3" || k.Err != api.OK {
		t.Error(s, k.Err)
	}
	one, _ := poly.Var(1, 0)
	if s, _ := poly.Text(k.Add(k.Widen(one), k.Mul())); s != "x0+1" || k.Err != api.OK {
		t.Error(s, k.Err)
	}
}

// The first error stays, and every result after it is 0.
func TestFirstError(t *testing.T) {
	k := &Kit{Vars: 2}
	k.Var(2)
	if p := k.Add(k.Var(0), k.Int(1)); k.Err != api.ErrArg || p.Vars != 0 || len(p.Terms) > 0 {
		t.Error(p, k.Err)
	}
	wide := &Kit{Vars: api.MaxVars + 1}
	if wide.Widen(api.Poly{}); wide.Err != api.ErrSize {
		t.Error(wide.Err)
	}
}

func TestPlaceAndCopy(t *testing.T) {
	p, _ := poly.Parse("x0^2*x1-x0+x1-3", 2)
	q := Place(p, 5, []int{1, 4})
	if s, e := poly.Text(q); s != "x1^2*x4-x1+x4-3" || e != api.OK || q.Vars != 5 {
		t.Error(s, e)
	}
	r := Copy(p)
	r.Terms[0].Coef.Words[0], r.Terms[1].Exps[0] = 7, 3
	q.Terms[0].Coef.Words[0] = 7
	if s, _ := poly.Text(p); s != "x0^2*x1-x0+x1-3" {
		t.Error(s)
	}
}

func TestLink(t *testing.T) {
	k := &Kit{Vars: 30}
	l := Link(api.LinkUnder, k.Mul(k.Var(3), k.Var(29)), k.Add(k.Var(7), k.Int(2)))
	first, _ := poly.Text(l.Polys[0])
	second, _ := poly.Text(l.Polys[1])
	if l.Kind != api.LinkUnder || len(l.Vars) != 3 || l.Vars[0] != 3 || l.Vars[1] != 7 || l.Vars[2] != 29 || first != "x0*x2" || second != "x1+2" {
		t.Error(l.Vars, first, second)
	}
	if l := Link(api.LinkEq, k.Int(0)); len(l.Vars) > 0 || l.Polys[0].Vars != 0 {
		t.Error(l)
	}
}
