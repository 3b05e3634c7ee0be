package calc

import (
	"reflect"
	"testing"

	"arithmancy/api"
	"arithmancy/large"
)

func TestChain(t *testing.T) {
	var c Calc
	a := c.Add(c.Mul(large.Of(6), large.Of(7)), c.Sub(large.Of(1), large.Of(3)))
	a = c.Add(c.Power(large.Of(2), 5), c.Quotient(a, large.Of(-3)))
	if !reflect.DeepEqual(a, large.Of(19)) || c.Err != api.OK {
		t.Error(a, c.Err)
	}
	if r := c.Rest(large.Of(-7), large.Of(4)); !reflect.DeepEqual(r, large.Of(1)) {
		t.Error(r)
	}
}

// The first error stays, and every result after it is 0.
func TestFirstError(t *testing.T) {
	var c Calc
	if a := c.Quotient(large.Of(1), api.Int{}); !IsZero(a) || c.Err != api.ErrArg {
		t.Error(a, c.Err)
	}
	bad := api.Int{Neg: true}
	for i, a := range []api.Int{c.Add(bad, bad), c.Mul(large.Of(2), large.Of(3)), c.Power(large.Of(2), 2), c.Keep(large.Of(5), api.ErrSize)} {
		if !IsZero(a) || c.Err != api.ErrArg {
			t.Error(i, a, c.Err)
		}
	}
}

func TestHelpers(t *testing.T) {
	a := large.Of(-5)
	for _, b := range []api.Int{Negative(a), Size(a), Copy(a), CopyAll([]api.Int{a})[0]} {
		b.Words[0] = 9
	}
	if !reflect.DeepEqual(a, large.Of(-5)) {
		t.Error("shared memory")
	}
	if !Equal(Negative(a), large.Of(5)) || !Equal(Negative(api.Int{}), api.Int{}) || !Equal(Size(a), large.Of(5)) || Equal(a, large.Of(5)) {
		t.Error("Equal")
	}
	if !Less(a, api.Int{}) || Less(a, a) || Less(api.Int{Neg: true}, a) {
		t.Error("Less")
	}
	if !Natural([]api.Int{{}, large.Of(3)}) || Natural([]api.Int{large.Of(3), a}) || !Valid(nil) || Valid([]api.Int{a, {Neg: true}}) {
		t.Error("lists")
	}
}

// A product is too large to be a number, but what is made of it is not.
func TestWide(t *testing.T) {
	var c Calc
	most := c.Power(large.Of(2), 32*api.MaxWords-1)
	small := large.Of(-12)
	w := c.Dot([]api.Int{small, large.Of(1)}, []api.Int{most, large.Of(24)})
	if c.IsZeroWide(w) || !c.IsZeroWide(c.Difference(w, w)) {
		t.Error("IsZeroWide")
	}
	a, ok := c.Divided(w, large.Of(-24))
	if want := c.Sub(c.Power(large.Of(2), 32*api.MaxWords-2), large.Of(1)); !ok || !Equal(a, want) || c.Err != api.OK {
		t.Error(ok, c.Err)
	}
	if _, ok := c.Divided(w, large.Of(5)); ok || c.Err != api.OK {
		t.Error(ok, c.Err)
	}
	if c.Divided(w, large.Of(3)); c.Err != api.ErrSize {
		t.Error(c.Err)
	}
}
