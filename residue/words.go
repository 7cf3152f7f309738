package residue

import "math/bits"

// words are those of a number while it is reckoned with: a struct goes from function to function in registers, an array does not, and the steps of a product would wait for it.
type words struct{ a, b, c, d uint64 }

func four(n Number) words { return words{n[0], n[1], n[2], n[3]} }

func (w words) number() Number { return Number{w.a, w.b, w.c, w.d} }

// plus is the sum, and what is carried over.
func plus(x, y words) (words, uint64) {
	a, carry := bits.Add64(x.a, y.a, 0)
	b, carry := bits.Add64(x.b, y.b, carry)
	c, carry := bits.Add64(x.c, y.c, carry)
	d, carry := bits.Add64(x.d, y.d, carry)
	return words{a, b, c, d}, carry
}

// minus is the difference, and what is borrowed.
func minus(x, y words) (words, uint64) {
	a, borrow := bits.Sub64(x.a, y.a, 0)
	b, borrow := bits.Sub64(x.b, y.b, borrow)
	c, borrow := bits.Sub64(x.c, y.c, borrow)
	d, borrow := bits.Sub64(x.d, y.d, borrow)
	return words{a, b, c, d}, borrow
}

// row is x times by, on top of onto: its lowest word, and the rest.
func row(x uint64, by, onto words) (uint64, words) {
	lowest, carry := cell(x, by.a, onto.a, 0)
	a, carry := cell(x, by.b, onto.b, carry)
	b, carry := cell(x, by.c, onto.c, carry)
	c, carry := cell(x, by.d, onto.d, carry)
	return lowest, words{a, b, c, carry}
}

// cell cannot run over: even of four highest words it is 2^128 - 1.
func cell(x, y, onto, carry uint64) (low, high uint64) {
	high, low = bits.Mul64(x, y)
	low, more := bits.Add64(low, onto, 0)
	high += more
	low, more = bits.Add64(low, carry, 0)
	return low, high + more
}
