package residue

func (p Prime) sum(a, b words) words {
	sum, over := plus(a, b)
	if less, fits := plus(sum, p.gap); over|fits != 0 {
		return less
	}
	return sum
}

func (p Prime) difference(a, b words) words {
	rest, under := minus(a, b)
	if under != 0 {
		rest, _ = minus(rest, p.gap)
	}
	return rest
}

func (p Prime) product(a, b words) words {
	w0, high := row(a.a, b, words{})
	w1, high := row(a.b, b, high)
	w2, high := row(a.c, b, high)
	w3, high := row(a.d, b, high)
	return p.fold(words{w0, w1, w2, w3}, high)
}

// fold brings low + 2^256 high below the prime. Each round leaves less of high, because no gap has a fourth word.
func (p Prime) fold(low, high words) words {
	for high != (words{}) {
		var rest words
		low.a, rest = row(p.gap.a, high, low)
		if p.gap.b|p.gap.c == 0 {
			low, high = words{low.a, rest.a, rest.b, rest.c}, words{a: rest.d}
			continue
		}
		low.b, rest = row(p.gap.b, high, rest)
		low.c, rest = row(p.gap.c, high, rest)
		low.d, high = rest.a, words{a: rest.b, b: rest.c, c: rest.d}
	}
	if less, fits := plus(low, p.gap); fits != 0 {
		return less
	}
	return low
}

// power takes four bits of the exponent at a time: so it needs a product for each four squares.
func (p Prime) power(a, exponent Number) Number {
	const width = 4
	powers := [1 << width]words{{a: 1}}
	for i := 1; i < len(powers); i++ {
		powers[i] = p.product(powers[i-1], four(a))
	}
	n := powers[0]
	for i := numberBits - width; i >= 0; i -= width {
		for range width {
			n = p.product(n, n)
		}
		n = p.product(n, powers[exponent.Bits(i, width)])
	}
	return n.number()
}
