package span

import "mintvault/scalar"

// line is a list of scalars that hang on X, which is open: what stands still, and what X moves.
type line struct {
	still, moved []scalar.Scalar
}

// lines are the bits of a value, and the bits less 1, each with chances that X brings in.
func lines(value uint64, bits int, seed []byte) (left, right line) {
	bit := func(i int) scalar.Scalar { return scalar.Of(value >> i & 1) }
	lessOne := func(i int) scalar.Scalar { return bit(i).Minus(scalar.Of(1)) }
	return line{listOf(bits, bit), chances("sl", bits, seed)}, line{listOf(bits, lessOne), chances("sr", bits, seed)}
}

func chances(label string, n int, seed []byte) []scalar.Scalar {
	return listOf(n, func(i int) scalar.Scalar { return scalar.Chance(label, seed, numeral(i)) })
}

func (a line) plus(list []scalar.Scalar) line {
	return line{paired(scalar.Scalar.Plus, a.still, list), a.moved}
}

func (a line) times(list []scalar.Scalar) line {
	return line{paired(scalar.Scalar.Times, a.still, list), paired(scalar.Scalar.Times, a.moved, list)}
}

func (a line) at(x scalar.Scalar) []scalar.Scalar {
	return listOf(len(a.still), func(i int) scalar.Scalar { return a.still[i].Plus(a.moved[i].Times(x)) })
}

// product is t1 and t2 of the product t0 + t1 X + t2 X^2.
func (a line) product(b line) (t1, t2 scalar.Scalar) {
	return combined(a.still, b.moved).Plus(combined(a.moved, b.still)), combined(a.moved, b.moved)
}

func paired(of func(a, b scalar.Scalar) scalar.Scalar, a, b []scalar.Scalar) []scalar.Scalar {
	return listOf(len(a), func(i int) scalar.Scalar { return of(a[i], b[i]) })
}
