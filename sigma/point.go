package sigma

import (
	"mintvault/group"
	"mintvault/scalar"
)

const pointBytes = 33

// point is the bytes of one; point{} is nothing. They were looked at when it was read, so that what is reckoned with it has no errno; and each point has its own bytes alone, so that == tells whether two are the same.
type point [pointBytes]byte

func readPoint(b []byte) (point, bool) {
	if !group.Point(b) {
		return point{}, false
	}
	return point(b), true
}

// readSome takes bytes as a point that is not nothing.
func readSome(b []byte) (point, bool) {
	a, ok := readPoint(b)
	return a, ok && a != point{}
}

// generator is G.
func generator() point { return point(group.Base()) }

// term is a point, and how often it is taken.
type term struct {
	times scalar.Scalar
	point point
}

func sum(terms ...term) point {
	n, a := make([][]byte, len(terms)), make([][]byte, len(terms))
	for i := range terms {
		n[i], a[i] = terms[i].times.Bytes(), terms[i].point[:]
	}
	b, _ := group.Sum(n, a)
	return point(b)
}

func times(n scalar.Scalar, a point) point { return sum(term{n, a}) }

func (a point) plus(b point) point {
	c, _ := group.Plus(a[:], b[:])
	return point(c)
}

func commitment(value, blind scalar.Scalar) point {
	b, _ := group.Commit(value.Bytes(), blind.Bytes())
	return point(b)
}
