package residue

// Times is the product.
func (p Prime) Times(a, b Number) Number {
	by := four(b)
	w0, high := row(a[0], by, words{})
	w1, high := row(a[1], by, high)
	w2, high := row(a[2], by, high)
	w3, high := row(a[3], by, high)
	return p.fold(words{w0, w1, w2, w3}, high).number()
}

// fold brings low + 2^256 high below the prime. Each round leaves less of high, because no gap has a fourth word.
func (p Prime) fold(low, high words) words {
	for high != (words{}) {
		var rest words
		low.a, rest = row(p.gap.a, high, low)
		if p.gap.b|p.gap.c == 0 {
			low, high = words{low.a, rest.a, rest.b, rest.c}, words{a: rest.d}
			continue
		}
		low.b, rest = row(p.gap.b, high, rest)
		low.c, rest = row(p.gap.c, high, rest)
		low.d, high = rest.a, words{a: rest.b, b: rest.c, c: rest.d}
	}
	if less, fits := plus(low, p.gap); fits != 0 {
		return less
	}
	return low
}

// power takes a as often as the exponent says without its lowest bits.
func (p Prime) power(a, exponent Number, lowest int) Number {
	n := Number{1}
	for i := numberBits - 1; i >= lowest; i-- {
		n = p.Times(n, n)
		if exponent.bit(i) == 1 {
			n = p.Times(n, a)
		}
	}
	return n
}

// Inverse is the number whose product with a is 1, and 0 of 0: a to the power of the prime is a, so two times fewer is its inverse.
func (p Prime) Inverse(a Number) Number {
	exponent := p.Modulus()
	exponent[0] -= 2
	return p.power(a, exponent, 0)
}

// Root is the even one of the two numbers whose square is a, if there are any. It finds those of Coordinates alone: that prime is one less than a multiple of 4, so a to the power of a quarter of that multiple is a root, if there is one.
func (p Prime) Root(a Number) (Number, bool) {
	root := p.Times(p.power(a, p.Modulus(), 2), a)
	if p.Times(root, root) != a {
		return Number{}, false
	}
	if root.Odd() {
		root = p.Minus(Number{}, root)
	}
	return root, true
}
