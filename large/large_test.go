package large

import (
	"math"
	"math/big"
	"math/rand"
	"reflect"
	"strings"
	"testing"

	"arithmancy/api"
)

// limit is the least number that is too large.
var limit = new(big.Int).Lsh(big.NewInt(1), api.MaxWords*wordBits)

// toBig and fromBig turn numbers into those of another library, word by word.
func toBig(a api.Int) *big.Int {
	x := new(big.Int)
	for i := len(a.Words) - 1; i >= 0; i-- {
		x.Lsh(x, wordBits)
		x.Or(x, new(big.Int).SetUint64(uint64(a.Words[i])))
	}
	if a.Neg {
		x.Neg(x)
	}
	return x
}

func fromBig(x *big.Int) api.Int {
	a := api.Int{Neg: x.Sign() < 0}
	rest := new(big.Int).Abs(x)
	mask := big.NewInt(math.MaxUint32)
	for rest.Sign() != 0 {
		a.Words = append(a.Words, uint32(new(big.Int).And(rest, mask).Uint64()))
		rest.Rsh(rest, wordBits)
	}
	return a
}

// isBig checks a result against the number that it has to be, or ErrSize if that one is too large.
func isBig(t *testing.T, what string, a api.Int, e api.Errno, want *big.Int) {
	t.Helper()
	if want.CmpAbs(limit) >= 0 {
		if e != api.ErrSize || !reflect.DeepEqual(a, api.Int{}) {
			t.Fatalf("%s: error %d for a number that is too large", what, e)
		}
		return
	}
	if e != api.OK || !Valid(a) || toBig(a).Cmp(want) != 0 {
		t.Fatalf("%s: %s, error %d, not %s", what, toBig(a), e, want)
	}
}

func invalids() []api.Int {
	return []api.Int{
		{Neg: true},
		{Words: []uint32{0}},
		{Words: []uint32{1, 0}},
		{Words: append(make([]uint32, api.MaxWords), 1)},
	}
}

// awkward returns a number of n words, many of which are at the ends of their range.
func awkward(r *rand.Rand, n int) api.Int {
	w := make([]uint32, n)
	for i := range w {
		switch r.Intn(7) {
		case 0:
			w[i] = 0
		case 1:
			w[i] = math.MaxUint32
		case 2:
			w[i] = 1 << 31
		case 3:
			w[i] = uint32(r.Intn(3))
		case 4:
			w[i] = math.MaxInt32
		default:
			w[i] = r.Uint32()
		}
	}
	w = trim(w)
	return api.Int{Neg: len(w) > 0 && r.Intn(2) == 0, Words: w}
}

func largest() api.Int {
	return fromBig(new(big.Int).Sub(limit, big.NewInt(1)))
}

func parsed(t *testing.T, s string) api.Int {
	t.Helper()
	a, e := Parse(s)
	if e != api.OK {
		t.Fatalf("%q: %d", s, e)
	}
	return a
}

func TestAgainstAnotherLibrary(t *testing.T) {
	r := rand.New(rand.NewSource(1))
	for round := range 3000 {
		a, b := awkward(r, r.Intn(7)), awkward(r, r.Intn(7))
		if round%50 == 0 {
			a, b = awkward(r, r.Intn(400)), awkward(r, r.Intn(200))
		}
		if round%1000 == 0 {
			a, b = awkward(r, 4096-r.Intn(3)), awkward(r, 4090*(round/1000%2)+r.Intn(3))
		}
		checkOperations(t, r, a, b)
	}
}

func checkOperations(t *testing.T, r *rand.Rand, a, b api.Int) {
	t.Helper()
	x, y := toBig(a), toBig(b)
	c, e := Add(a, b)
	isBig(t, "Add", c, e, new(big.Int).Add(x, y))
	c, e = Sub(a, b)
	isBig(t, "Sub", c, e, new(big.Int).Sub(x, y))
	c, e = Mul(a, b)
	isBig(t, "Mul", c, e, new(big.Int).Mul(x, y))
	if n, e := Cmp(a, b); n != x.Cmp(y) || e != api.OK {
		t.Fatal("Cmp", x, y, n, e)
	}
	if y.Sign() != 0 {
		q, m := new(big.Int).DivMod(x, y, new(big.Int))
		c, d, e := Div(a, b)
		isBig(t, "quotient", c, e, q)
		isBig(t, "rest", d, e, m)
	}
	checkGcd(t, a, b)
	abs := api.Int{Words: a.Words}
	root := new(big.Int).Sqrt(toBig(abs))
	c, is, e := Root(abs)
	isBig(t, "Root", c, e, root)
	if is != (new(big.Int).Mul(root, root).Cmp(toBig(abs)) == 0) {
		t.Fatal("Root", x, is)
	}
	if Bits(a) != x.BitLen() {
		t.Fatal("Bits", x)
	}
	n := r.Intn(100)
	c, e = Shift(a, n)
	isBig(t, "Shift up", c, e, new(big.Int).Lsh(x, uint(n)))
	c, e = Shift(a, -n)
	isBig(t, "Shift down", c, e, new(big.Int).Rsh(x, uint(n)))
	s, e := Text(a)
	if s != x.String() || e != api.OK {
		t.Fatal("Text", x, s, e)
	}
}

func checkGcd(t *testing.T, a, b api.Int) {
	t.Helper()
	g, x, y, e := Gcd(a, b)
	isBig(t, "Gcd", g, e, new(big.Int).GCD(nil, nil, new(big.Int).Abs(toBig(a)), new(big.Int).Abs(toBig(b))))
	left := new(big.Int).Mul(toBig(a), toBig(x))
	right := new(big.Int).Mul(toBig(b), toBig(y))
	if left.Add(left, right).Cmp(toBig(g)) != 0 {
		t.Fatal("Gcd is no such sum", a, b, x, y)
	}
	one := big.NewInt(1)
	atMost := func(x, b api.Int) bool {
		return Valid(x) && toBig(x).CmpAbs(new(big.Int).Add(new(big.Int).Abs(toBig(b)), one)) <= 0
	}
	if !atMost(x, b) || !atMost(y, a) {
		t.Fatal("Gcd has too large factors", a, b, x, y)
	}
}

// P1.1: ring.
func TestRing(t *testing.T) {
	r := rand.New(rand.NewSource(2))
	must := func(a api.Int, e api.Errno) api.Int {
		if e != api.OK {
			t.Fatal(e)
		}
		return a
	}
	same := func(law string, a, b api.Int) {
		if !reflect.DeepEqual(a, b) {
			t.Fatal(law, a, b)
		}
	}
	for range 500 {
		a, b, c := awkward(r, r.Intn(90)), awkward(r, r.Intn(90)), awkward(r, r.Intn(90))
		same("order of a sum", must(Add(a, b)), must(Add(b, a)))
		same("order of a product", must(Mul(a, b)), must(Mul(b, a)))
		same("brackets of a sum", must(Add(must(Add(a, b)), c)), must(Add(a, must(Add(b, c)))))
		same("brackets of a product", must(Mul(must(Mul(a, b)), c)), must(Mul(a, must(Mul(b, c)))))
		same("distribution", must(Mul(a, must(Add(b, c)))), must(Add(must(Mul(a, b)), must(Mul(a, c)))))
		same("Sub undoes Add", must(Sub(must(Add(a, b)), b)), a)
	}
}

// P1.2: division.
func TestDivision(t *testing.T) {
	for _, l := range [][4]int{{-7, 2, -4, 1}, {-7, -2, 4, 1}, {7, -2, -3, 1}, {7, 2, 3, 1}, {-8, 2, -4, 0}, {0, -5, 0, 0}, {3, 5, 0, 3}, {-3, 5, -1, 2}, {-3, -5, 1, 2}} {
		q, r, e := Div(Of(l[0]), Of(l[1]))
		if !reflect.DeepEqual(q, Of(l[2])) || !reflect.DeepEqual(r, Of(l[3])) || e != api.OK {
			t.Error(l, q, r, e)
		}
	}
	if q, r, e := Div(Of(5), api.Int{}); e != api.ErrArg || len(q.Words)+len(r.Words) > 0 {
		t.Error(q, r, e)
	}
	for _, a := range []api.Int{largest(), Of(math.MinInt)} {
		q, _, e := Div(a, Of(-1))
		isBig(t, "quotient", q, e, new(big.Int).Neg(toBig(a)))
	}
}

// The guess of a digit of a quotient is one or two too large here.
func TestDivisionGuesses(t *testing.T) {
	for _, l := range [][2][]uint32{
		{{0, 0, 0x80000000, 0x7fffffff}, {1, 0, 0x80000000}},
		{{3, 0, 0x80000000}, {1, 0x20000000}},
		{{0, 0xfffffffe, 0x80000000}, {0xffffffff, 0x80000000}},
		{{0, 0, 1, 0x80000000}, {0xffffffff, 0xffffffff, 0x80000000}},
		{{0xffffffff, 0xffffffff, 0xffffffff, 0xffffffff}, {0xffffffff, 0xffffffff}},
	} {
		a, b := api.Int{Words: l[0]}, api.Int{Words: l[1]}
		want, rest := new(big.Int).DivMod(toBig(a), toBig(b), new(big.Int))
		q, r, e := Div(a, b)
		isBig(t, "quotient", q, e, want)
		isBig(t, "rest", r, e, rest)
	}
}

// P1.3: order.
func TestOrder(t *testing.T) {
	r := rand.New(rand.NewSource(3))
	order := func(a, b api.Int) int {
		c, e := Cmp(a, b)
		if e != api.OK {
			t.Fatal(e)
		}
		return c
	}
	for range 1000 {
		a, b, c := awkward(r, r.Intn(3)), awkward(r, r.Intn(3)), awkward(r, r.Intn(3))
		if order(a, b) != -order(b, a) || (order(a, b) == 0) != reflect.DeepEqual(a, b) {
			t.Fatal("not an order", a, b)
		}
		if order(a, b) <= 0 && order(b, c) <= 0 && order(a, c) > 0 {
			t.Fatal("not transitive", a, b, c)
		}
		ac, _ := Add(a, c)
		bc, _ := Add(b, c)
		if order(a, b) != order(ac, bc) {
			t.Fatal("adding changes the order", a, b, c)
		}
		if order(c, Of(0)) <= 0 {
			continue
		}
		ac, _ = Mul(a, c)
		bc, _ = Mul(b, c)
		if order(a, b) != order(ac, bc) {
			t.Fatal("multiplying changes the order", a, b, c)
		}
	}
}

// P1.4: text.
func TestText(t *testing.T) {
	r := rand.New(rand.NewSource(4))
	for range 300 {
		a := awkward(r, r.Intn(20))
		s, _ := Text(a)
		if b := parsed(t, s); !reflect.DeepEqual(a, b) {
			t.Fatal(s, a, b)
		}
	}
	for _, s := range []string{"0", "-1", "7", "1000000000", "999999999", "-1000000000000000000", "100000000000000000000000000001"} {
		if back, e := Text(parsed(t, s)); back != s || e != api.OK {
			t.Error(s, back, e)
		}
	}
	for _, s := range []string{"", "-", "-0", "00", "-01", "+1", "01", " 1", "1 ", "1e3", "--1", "1-", "1_0", "0x1", "٣", "1\n", strings.Repeat("1", api.MaxText+1)} {
		if a, e := Parse(s); e != api.ErrParse || len(a.Words) > 0 {
			t.Errorf("%q: %d", s, e)
		}
	}
	last := new(big.Int).Sub(limit, big.NewInt(1))
	a, e := Parse("-" + last.String())
	isBig(t, "the least number", a, e, new(big.Int).Neg(last))
	for _, s := range []string{limit.String(), "-" + limit.String(), strings.Repeat("9", api.MaxText)} {
		if a, e := Parse(s); e != api.ErrSize || len(a.Words) > 0 {
			t.Error(len(s), e)
		}
	}
}

// P1.5: powers.
func TestPowers(t *testing.T) {
	r := rand.New(rand.NewSource(5))
	for range 100 {
		a, m, n := awkward(r, r.Intn(5)), r.Intn(12), r.Intn(12)
		whole, _ := Power(a, m+n)
		left, _ := Power(a, m)
		right, _ := Power(a, n)
		product, e := Mul(left, right)
		if e != api.OK || !reflect.DeepEqual(whole, product) {
			t.Fatal(a, m, n)
		}
		isBig(t, "Power", whole, e, new(big.Int).Exp(toBig(a), big.NewInt(int64(m+n)), nil))
	}
	most := api.MaxWords * wordBits
	for _, l := range []struct {
		a, n int
		e    api.Errno
		want string
	}{
		{0, 0, api.OK, "1"}, {0, math.MaxInt, api.OK, "0"}, {1, math.MaxInt, api.OK, "1"}, {-1, math.MaxInt, api.OK, "-1"}, {-1, math.MaxInt - 1, api.OK, "1"},
		{-3, 41, api.OK, "-36472996377170786403"}, {2, -1, api.ErrArg, ""}, {0, -1, api.ErrArg, ""}, {2, most, api.ErrSize, ""}, {-2, math.MaxInt, api.ErrSize, ""}, {3, most - 1, api.ErrSize, ""},
	} {
		a, e := Power(Of(l.a), l.n)
		if e != l.e || e == api.OK && toBig(a).String() != l.want || e != api.OK && len(a.Words) > 0 {
			t.Error(l, a, e)
		}
	}
	if a, e := Power(Of(-2), most-1); e != api.OK || Bits(a) != most || !a.Neg {
		t.Error(e)
	}
}

// P1.6: under.
func TestUnder(t *testing.T) {
	under := func(a, b int) bool {
		is, e := Under(Of(a), Of(b))
		if e != api.OK {
			t.Fatal(a, b, e)
		}
		return is
	}
	for b := range 70 {
		for a := range 75 {
			odd := new(big.Int).Binomial(int64(b), int64(a)).Bit(0) == 1
			if under(a, b) != (a <= b && odd) {
				t.Fatal("binomial coefficient", a, b)
			}
			if a <= b && under(a, b) != (under(b-a, b) && a&(b-a) == 0) {
				t.Fatal("carries", a, b)
			}
		}
	}
	if !under(5, 13) || under(2, 13) || !under(0, 0) || under(1, 0) {
		t.Error("examples")
	}
	for _, l := range [][2]int{{-1, 1}, {1, -1}, {0, -1}, {-1, -1}} {
		if is, e := Under(Of(l[0]), Of(l[1])); e != api.ErrArg || is {
			t.Error(l, is, e)
		}
	}
	wide := parsed(t, "340282366920938463463374607431768211456")
	if is, _ := Under(wide, Of(math.MaxInt)); is {
		t.Error("longer, but under")
	}
	if is, _ := Under(wide, wide); !is {
		t.Error("not under itself")
	}
}

// P1.7: shift.
func TestShift(t *testing.T) {
	r := rand.New(rand.NewSource(6))
	for range 300 {
		a, m, n := awkward(r, r.Intn(6)), r.Intn(200), r.Intn(200)
		once, e := Shift(a, m+n)
		first, _ := Shift(a, m)
		twice, f := Shift(first, n)
		if !reflect.DeepEqual(once, twice) || e != api.OK || f != api.OK {
			t.Fatal(a, m, n)
		}
	}
	most := api.MaxWords * wordBits
	for _, l := range []struct{ a, n, want int }{{-5, -1, -3}, {-5, -2, -2}, {-5, -3, -1}, {-5, -1000, -1}, {-5, math.MinInt, -1}, {5, math.MinInt, 0}, {5, -1, 2}, {-8, -3, -1}, {-8, -2, -2}, {0, math.MaxInt, 0}, {0, math.MinInt, 0}, {5, 0, 5}} {
		if a, e := Shift(Of(l.a), l.n); e != api.OK || !reflect.DeepEqual(a, Of(l.want)) {
			t.Error(l, a, e)
		}
	}
	if a, e := Shift(Of(-1), most-1); e != api.OK || Bits(a) != most {
		t.Error(e)
	}
	for _, n := range []int{most, math.MaxInt} {
		if a, e := Shift(Of(1), n); e != api.ErrSize || len(a.Words) > 0 {
			t.Error(n, e)
		}
	}
}

func TestGcd(t *testing.T) {
	for _, l := range [][3]int{{0, 0, 0}, {0, 5, 5}, {-5, 0, 5}, {0, -7, 7}, {-240, 46, 2}, {12, 4, 4}, {4, 12, 4}, {4, -4, 4}, {1, 1, 1}, {math.MinInt, math.MinInt + 1, 1}} {
		g, _, _, e := Gcd(Of(l[0]), Of(l[1]))
		if e != api.OK || !reflect.DeepEqual(g, Of(l[2])) {
			t.Error(l, g, e)
		}
		checkGcd(t, Of(l[0]), Of(l[1]))
	}
	// Neighbours of the sequence 1, 1, 2, 3, 5, .. need the most steps.
	x, y := big.NewInt(1), big.NewInt(1)
	for range 2000 {
		x.Add(x, y)
		x, y = y, x
	}
	checkGcd(t, fromBig(x), fromBig(y))
	r := rand.New(rand.NewSource(7))
	for range 300 {
		c := awkward(r, r.Intn(9))
		a, _ := Mul(awkward(r, r.Intn(9)), c)
		b, _ := Mul(awkward(r, r.Intn(9)), c)
		checkGcd(t, a, b)
	}
}

func TestRoot(t *testing.T) {
	for n := range 200 {
		r, is, e := Root(Of(n))
		s := int(math.Sqrt(float64(n)))
		if !reflect.DeepEqual(r, Of(s)) || is != (s*s == n) || e != api.OK {
			t.Error(n, r, is, e)
		}
	}
	if r, is, e := Root(Of(-4)); e != api.ErrArg || is || len(r.Words) > 0 {
		t.Error(r, is, e)
	}
	r := rand.New(rand.NewSource(8))
	for range 200 {
		a := awkward(r, r.Intn(60))
		square, _ := Mul(a, a)
		below, _ := Sub(square, Of(1))
		root, is, _ := Root(square)
		if !is || toBig(root).CmpAbs(toBig(a)) != 0 {
			t.Fatal("a square", a)
		}
		if len(a.Words) == 0 {
			continue
		}
		root, is, _ = Root(below)
		if is && len(root.Words) > 0 || toBig(root).CmpAbs(toBig(a)) >= 0 {
			t.Fatal("below a square", a)
		}
	}
}

func TestSmall(t *testing.T) {
	for _, n := range []int{0, 1, -1, math.MaxInt64, math.MinInt64, math.MinInt64 + 1, 1 << 32, -1 << 40, math.MaxUint32} {
		if m, ok := Small(Of(n)); m != n || !ok || !Valid(Of(n)) {
			t.Error(n, m, ok)
		}
	}
	for _, s := range []string{"9223372036854775808", "-9223372036854775809", "18446744073709551615", "-18446744073709551615", "18446744073709551616"} {
		if n, ok := Small(parsed(t, s)); ok || n != 0 {
			t.Error(s, n)
		}
	}
}

func TestInvalid(t *testing.T) {
	good := Of(3)
	for _, bad := range invalids() {
		if n, ok := Small(bad); Valid(bad) || ok || n != 0 || Bits(bad) != 0 {
			t.Error("Valid, Small or Bits of an invalid number")
		}
		for _, l := range [][2]api.Int{{bad, good}, {good, bad}, {bad, bad}, {bad, {}}} {
			errs := map[string]api.Errno{}
			_, errs["Cmp"] = Cmp(l[0], l[1])
			_, errs["Add"] = Add(l[0], l[1])
			_, errs["Sub"] = Sub(l[0], l[1])
			_, errs["Mul"] = Mul(l[0], l[1])
			_, _, errs["Div"] = Div(l[0], l[1])
			_, _, _, errs["Gcd"] = Gcd(l[0], l[1])
			_, errs["Under"] = Under(l[0], l[1])
			_, errs["Text"] = Text(bad)
			_, errs["Power"] = Power(bad, -1)
			_, _, errs["Root"] = Root(bad)
			_, errs["Shift"] = Shift(bad, 1)
			for name, e := range errs {
				if e != api.ErrForm {
					t.Error(name, bad.Neg, e)
				}
			}
		}
	}
	if !Valid(api.Int{}) || !Valid(api.Int{Words: []uint32{}}) || !Valid(largest()) {
		t.Error("valid")
	}
}

func TestLimits(t *testing.T) {
	one := Of(1)
	a, e := Add(largest(), one)
	isBig(t, "Add", a, e, limit)
	least := api.Int{Neg: true, Words: largest().Words}
	a, e = Sub(least, one)
	isBig(t, "Sub", a, e, new(big.Int).Neg(limit))
	a, e = Add(least, one)
	isBig(t, "Add", a, e, new(big.Int).Add(toBig(least), big.NewInt(1)))
	half, _ := Shift(one, api.MaxWords*wordBits/2)
	a, e = Mul(half, half)
	isBig(t, "Mul", a, e, limit)
	below, _ := Sub(half, one)
	a, e = Mul(half, below)
	isBig(t, "Mul", a, e, new(big.Int).Mul(toBig(half), toBig(below)))
	a, e = Mul(largest(), api.Int{})
	isBig(t, "Mul", a, e, new(big.Int))
}

// Results are new memory, and arguments are not changed (R5).
func TestMemory(t *testing.T) {
	a, b := Of(5), Of(7)
	results := func() []api.Int {
		one, _ := Power(a, 1)
		quotient, rest, _ := Div(a, b)
		sum, _ := Add(a, api.Int{})
		shifted, _ := Shift(a, 0)
		product, _ := Mul(a, Of(1))
		g, _, _, _ := Gcd(a, api.Int{})
		return []api.Int{one, quotient, rest, sum, shifted, product, g}
	}
	for _, r := range results() {
		for i := range r.Words {
			r.Words[i] = 99
		}
		if more := append(r.Words, 98); len(more) == 0 {
			t.Error("append")
		}
	}
	if !reflect.DeepEqual(a, Of(5)) || !reflect.DeepEqual(b, Of(7)) {
		t.Error("an argument has changed", a, b)
	}
	if first := results()[0]; !reflect.DeepEqual(first, Of(5)) {
		t.Error("a result has changed", first)
	}
}
