package residue

// Prime is 2^256 less its gap. So what lies above 2^256 is brought down by taking it gap times, and the prime fits into a number just where adding the gap carries 2^256 over; what is left then is the number without the prime.
type Prime struct {
	gap words
}

// Coordinates is the prime of the coordinates of points.
func Coordinates() Prime {
	return Prime{words{a: 1<<32 + 977}}
}

// Scalars is the prime of how often a point is taken: the order of the curve.
func Scalars() Prime {
	return Prime{words{a: 0x402da1732fc9bebf, b: 0x4551231950b75fc4, c: 1}}
}

// Modulus is the prime itself, which is no number of its own.
func (p Prime) Modulus() Number {
	n, _ := minus(words{}, p.gap)
	return n.number()
}

// Read takes bytes as a number of the prime, if they are one.
func (p Prime) Read(b []byte) (Number, bool) {
	if len(b) != numberBytes {
		return Number{}, false
	}
	n := fromBytes(b)
	if _, fits := plus(four(n), p.gap); fits != 0 {
		return Number{}, false
	}
	return n, true
}

// Reduce takes bytes of any length modulo the prime.
func (p Prime) Reduce(b []byte) Number {
	first := len(b) % numberBytes
	n := p.fold(four(fromBytes(b[:first])), words{})
	for b = b[first:]; len(b) > 0; b = b[numberBytes:] {
		n = p.fold(four(fromBytes(b[:numberBytes])), n)
	}
	return n.number()
}

// Plus is the sum.
func (p Prime) Plus(a, b Number) Number {
	sum, over := plus(four(a), four(b))
	if less, fits := plus(sum, p.gap); over|fits != 0 {
		sum = less
	}
	return sum.number()
}

// Minus is the difference.
func (p Prime) Minus(a, b Number) Number {
	rest, under := minus(four(a), four(b))
	if under != 0 {
		rest, _ = minus(rest, p.gap)
	}
	return rest.number()
}
