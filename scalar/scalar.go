// Package scalar has scalars as values, and a log that knows of them: what proofs and keys are made with.
package scalar

import (
	"mintvault/residue"
	"mintvault/sponge"
)

// Size is how many bytes a scalar has.
const Size = 32

// wide is how many bytes a scalar is made of where it is to be any of them: twice as many as it has, so that none comes up more often than another.
const wide = 64

// Scalar is a number of the order of the curve. Each has one struct alone, so that == tells whether two are the same; Scalar{} is 0.
type Scalar struct {
	number residue.Number
}

// Read takes bytes as a scalar, if they are one.
func Read(b []byte) (Scalar, bool) {
	n, ok := residue.Scalars().Read(b)
	return Scalar{n}, ok
}

// ReadSome takes bytes as a scalar that is not 0: that one makes nothing of every point, and so hides nothing.
func ReadSome(b []byte) (Scalar, bool) {
	a, ok := Read(b)
	return a, ok && a != Scalar{}
}

// Of is the scalar of a small number.
func Of(n uint64) Scalar { return Scalar{residue.Number{n}} }

// Chance is a scalar that hangs on a label and parts: whoever does not know all of them cannot guess it.
func Chance(label string, parts ...[]byte) Scalar { return Spread(sponge.Tag(label, parts)) }

// Spread is a scalar that hangs on bytes, and may be any of them.
func Spread(b []byte) Scalar {
	long, _ := sponge.Stream(b, wide)
	return reduced(long)
}

func reduced(b []byte) Scalar { return Scalar{residue.Scalars().Reduce(b)} }

// Bytes are the 32 of the scalar, the highest first, in new memory.
func (a Scalar) Bytes() []byte { return a.number.Bytes() }

// Plus is the sum.
func (a Scalar) Plus(b Scalar) Scalar { return Scalar{residue.Scalars().Plus(a.number, b.number)} }

// Minus is the difference.
func (a Scalar) Minus(b Scalar) Scalar { return Scalar{residue.Scalars().Minus(a.number, b.number)} }

// Times is the product.
func (a Scalar) Times(b Scalar) Scalar { return Scalar{residue.Scalars().Times(a.number, b.number)} }

// Opposite is the scalar whose sum with this one is 0.
func (a Scalar) Opposite() Scalar { return Scalar{}.Minus(a) }

// Inverse is the scalar whose product with this one is 1, and 0 of 0.
func (a Scalar) Inverse() Scalar { return Scalar{residue.Scalars().Inverse(a.number)} }

// OrOne is the scalar itself, or 1 in place of 0: for what is divided by, or is a key.
func (a Scalar) OrOne() Scalar {
	if a == (Scalar{}) {
		return Of(1)
	}
	return a
}
