package large

// splitFrom is the number of words from which on splitting the factors pays.
const splitFrom = 40

// multiply returns the product.
func multiply(a, b []uint32) []uint32 {
	if len(a) < len(b) {
		a, b = b, a
	}
	if len(b) == 0 {
		return nil
	}
	c := make([]uint32, len(a)+len(b))
	if len(b) < splitFrom {
		rowByRow(c, a, b)
		return trim(c)
	}
	half := (len(a) + 1) / 2
	if len(b) <= half {
		addTo(c, multiply(trim(a[:half]), b))
		addTo(c[half:], multiply(a[half:], b))
		return trim(c)
	}
	threeProducts(c, a, b, half)
	return trim(c)
}

// rowByRow adds the product to c, which is 0.
func rowByRow(c, a, b []uint32) {
	for i, x := range b {
		row := c[i : i+len(a)+1]
		carry := uint64(0)
		for j, y := range a {
			t := uint64(x)*uint64(y) + uint64(row[j]) + carry
			row[j] = uint32(t)
			carry = t >> wordBits
		}
		row[len(a)] = uint32(carry)
	}
}

// threeProducts adds the product to c, which is 0. Both factors are split at half; three products of halves are enough, since (a0 + a1)(b0 + b1) - a0 b0 - a1 b1 = a0 b1 + a1 b0.
func threeProducts(c, a, b []uint32, half int) {
	a0, a1 := trim(a[:half]), a[half:]
	b0, b1 := trim(b[:half]), b[half:]
	low, high := multiply(a0, b0), multiply(a1, b1)
	mixed := multiply(add(a0, a1), add(b0, b1))
	takeFrom(mixed, low)
	takeFrom(mixed, high)
	copy(c, low)
	copy(c[2*half:], high)
	addTo(c[half:], trim(mixed))
}
