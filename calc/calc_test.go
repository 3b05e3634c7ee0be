package calc

import (
	"encoding/binary"
	"math/big"
	"reflect"
	"slices"
	"testing"

	"arithmancy/api"
	"arithmancy/large"
)

func TestChain(t *testing.T) {
	var c Calc
	a := c.Add(c.Mul(large.Of(6), large.Of(7)), c.Sub(large.Of(1), large.Of(3)))
	a = c.Add(c.Power(large.Of(2), 5), c.Quotient(a, large.Of(-3)))
	if !reflect.DeepEqual(a, large.Of(19)) || c.Err != api.OK {
		t.Error(a, c.Err)
	}
	if r := c.Rest(large.Of(-7), large.Of(4)); !reflect.DeepEqual(r, large.Of(1)) {
		t.Error(r)
	}
}

// The first error stays, and every result after it is 0.
func TestFirstError(t *testing.T) {
	var c Calc
	if a := c.Quotient(large.Of(1), api.Int{}); !IsZero(a) || c.Err != api.ErrArg {
		t.Error(a, c.Err)
	}
	bad := api.Int{Neg: true}
	for i, a := range []api.Int{c.Add(bad, bad), c.Mul(large.Of(2), large.Of(3)), c.Power(large.Of(2), 2), c.Keep(large.Of(5), api.ErrSize)} {
		if !IsZero(a) || c.Err != api.ErrArg {
			t.Error(i, a, c.Err)
		}
	}
}

func TestHelpers(t *testing.T) {
	a := large.Of(-5)
	for _, b := range []api.Int{Negative(a), Size(a), Copy(a), CopyAll([]api.Int{a})[0]} {
		b.Words[0] = 9
	}
	if !reflect.DeepEqual(a, large.Of(-5)) {
		t.Error("shared memory")
	}
	if !Equal(Negative(a), large.Of(5)) || !Equal(Negative(api.Int{}), api.Int{}) || !Equal(Size(a), large.Of(5)) || Equal(a, large.Of(5)) {
		t.Error("Equal")
	}
	if !Less(a, api.Int{}) || Less(a, a) || Less(api.Int{Neg: true}, a) {
		t.Error("Less")
	}
	if !Natural([]api.Int{{}, large.Of(3)}) || Natural([]api.Int{large.Of(3), a}) || !Valid(nil) || Valid([]api.Int{a, {Neg: true}}) {
		t.Error("lists")
	}
}

// A product is too large to be a number, but what is made of it is not.
func TestWide(t *testing.T) {
	var c Calc
	most := c.Power(large.Of(2), 32*api.MaxWords-1)
	small := large.Of(-12)
	w := c.Dot([]api.Int{small, large.Of(1)}, []api.Int{most, large.Of(24)})
	if c.IsZeroWide(w) || !c.IsZeroWide(c.Difference(w, w)) {
		t.Error("IsZeroWide")
	}
	a, ok := c.Divided(w, large.Of(-24))
	if want := c.Sub(c.Power(large.Of(2), 32*api.MaxWords-2), large.Of(1)); !ok || !Equal(a, want) || c.Err != api.OK {
		t.Error(ok, c.Err)
	}
	if _, ok := c.Divided(w, large.Of(5)); ok || c.Err != api.OK {
		t.Error(ok, c.Err)
	}
	if c.Divided(w, large.Of(3)); c.Err != api.ErrSize {
		t.Error(c.Err)
	}
}

// toBig returns a number as one of another library.
func toBig(a api.Int) *big.Int {
	var bytes []byte
	for _, w := range slices.Backward(a.Words) {
		bytes = binary.BigEndian.AppendUint32(bytes, w)
	}
	x := new(big.Int).SetBytes(bytes)
	if a.Neg {
		x.Neg(x)
	}
	return x
}

// ends returns numbers at the ends of what is valid, and of what a half holds, with both signs.
func ends() []api.Int {
	var c Calc
	var list []api.Int
	for _, n := range []int{0, 1, halfBits, 2*halfBits - 1} {
		p := c.Power(large.Of(2), n)
		list = append(list, p, c.Add(p, c.Sub(p, large.Of(1))), Negative(p), Negative(c.Add(p, c.Sub(p, large.Of(1)))))
	}
	return append(list, api.Int{}, c.Power(large.Of(2), halfBits/2))
}

// Integers at the ends of what is valid are neither too long for a sum of products, nor for its quotient.
func TestWideAtTheEnds(t *testing.T) {
	limit := new(big.Int).Lsh(big.NewInt(1), 2*halfBits)
	for _, a := range ends() {
		for _, b := range ends() {
			for _, n := range []int{1, -1, 2, -3} {
				var c Calc
				w := c.Difference(c.Dot([]api.Int{large.Of(n)}, []api.Int{a}), c.Dot([]api.Int{large.Of(-n)}, []api.Int{b}))
				want := new(big.Int).Add(toBig(a), toBig(b))
				want.Mul(want, big.NewInt(int64(n)))
				if c.IsZeroWide(w) != (want.Sign() == 0) || c.Err != api.OK {
					t.Fatal(large.Bits(a), large.Bits(b), n, c.Err)
				}
				for _, d := range []int{1, -1, 2, 3, -3, 4} {
					var c Calc
					q, ok := c.Divided(w, large.Of(d))
					quotient, rest := new(big.Int).QuoRem(want, big.NewInt(int64(d)), new(big.Int))
					switch {
					case rest.Sign() != 0:
						if ok || c.Err != api.OK {
							t.Fatal(large.Bits(a), large.Bits(b), n, d, ok, c.Err)
						}
					case quotient.CmpAbs(limit) >= 0:
						if c.Err != api.ErrSize {
							t.Fatal(large.Bits(a), large.Bits(b), n, d, c.Err)
						}
					case !ok || c.Err != api.OK || toBig(q).Cmp(quotient) != 0:
						t.Fatal(large.Bits(a), large.Bits(b), n, d, ok, c.Err)
					}
				}
			}
		}
	}
}
