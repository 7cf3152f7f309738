package residue

// Prime is 2^256 less its gap. So what lies above 2^256 is brought down by taking it gap times, and the prime fits into a number just where adding the gap carries 2^256 over; what is left then is the number without the prime.
type Prime struct {
	gap words
}

// Coordinates is the prime of the coordinates of points.
func Coordinates() Prime {
	return Prime{words{a: 1<<32 + 977}}
}

// Scalars is the prime of how often a point is taken: the order of the curve.
func Scalars() Prime {
	return Prime{words{a: 0x402da1732fc9bebf, b: 0x4551231950b75fc4, c: 1}}
}

// Modulus is the prime itself, which is no number of its own.
func (p Prime) Modulus() Number {
	n, _ := minus(words{}, p.gap)
	return n.number()
}

// Read takes bytes as a number of the prime, if they are one.
func (p Prime) Read(b []byte) (Number, bool) {
	if len(b) != numberBytes {
		return Number{}, false
	}
	n := fromBytes(b)
	if _, fits := plus(four(n), p.gap); fits != 0 {
		return Number{}, false
	}
	return n, true
}

// Reduce takes bytes of any length modulo the prime.
func (p Prime) Reduce(b []byte) Number {
	first := len(b) % numberBytes
	n := p.fold(four(fromBytes(b[:first])), words{})
	for b = b[first:]; len(b) > 0; b = b[numberBytes:] {
		n = p.fold(four(fromBytes(b[:numberBytes])), n)
	}
	return n.number()
}

// Plus is the sum.
func (p Prime) Plus(a, b Number) Number { return p.sum(four(a), four(b)).number() }

// Minus is the difference.
func (p Prime) Minus(a, b Number) Number { return p.difference(four(a), four(b)).number() }

// Times is the product.
func (p Prime) Times(a, b Number) Number { return p.product(four(a), four(b)).number() }

// Inverse is the number whose product with a is 1, and 0 of 0: a to the power of the prime is a, so two times fewer is its inverse.
func (p Prime) Inverse(a Number) Number {
	exponent := p.Modulus()
	exponent[0] -= 2
	return p.power(a, exponent)
}

// Root is the even one of the two numbers whose square is a, if there are any. It finds those of Coordinates alone: that prime is one less than a multiple of 4, so a to the power of a quarter of that multiple is a root, if there is one.
func (p Prime) Root(a Number) (Number, bool) {
	exponent := p.Modulus().quarter()
	exponent[0]++
	root := p.power(a, exponent)
	if p.Times(root, root) != a {
		return Number{}, false
	}
	if root.Odd() {
		root = p.Minus(Number{}, root)
	}
	return root, true
}
