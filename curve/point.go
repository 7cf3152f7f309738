// Package curve has points as values, and sums of them that are worked out late: what proofs and keys are made with.
package curve

import (
	"mintvault/group"
	"mintvault/scalar"
)

// Size is how many bytes a point has.
const Size = 33

// Point is the bytes of one; Point{} is nothing. They were looked at when it was read, so that what is reckoned with it has no errno; and each point has its own bytes alone, so that == tells whether two are the same.
type Point [Size]byte

// Read takes bytes as a point, if they are one.
func Read(b []byte) (Point, bool) {
	if !group.Point(b) {
		return Point{}, false
	}
	return Point(b), true
}

// ReadSome takes bytes as a point that is not nothing.
func ReadSome(b []byte) (Point, bool) {
	a, ok := Read(b)
	return a, ok && a != Point{}
}

// Generator is G.
func Generator() Point { return Point(group.Base()) }

// Hash is a point that hangs on a label and bytes.
func Hash(label string, b []byte) Point {
	a, _ := group.HashTo(label, b)
	return Point(a)
}

// Commit hides a value.
func Commit(value, blind scalar.Scalar) Point {
	b, _ := group.Commit(value.Bytes(), blind.Bytes())
	return Point(b)
}

// Bytes are in new memory: a is a copy already.
func (a Point) Bytes() []byte { return a[:] }

// Times is the point so many times, to be worked out late.
func (a Point) Times(n scalar.Scalar) Sum { return Sum{{n, a}} }
