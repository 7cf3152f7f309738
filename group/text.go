package group

import (
	"iter"

	"mintvault/residue"
	"mintvault/sponge"
)

// pointsOf are those that a text may give, in order: about every other number is the x of one.
func pointsOf(label string, b []byte) iter.Seq[point] {
	return func(yield func(point) bool) {
		for i := range 256 {
			tag := sponge.Tag("point "+label, [][]byte{b, {byte(i)}})
			x, ok := residue.Coordinates().Read(tag)
			if !ok {
				continue
			}
			if a, ok := above(x); ok && !yield(a) {
				return
			}
		}
	}
}

// first is G, where there is none.
func first(points iter.Seq[point]) point {
	for a := range points {
		return a
	}
	return base()
}
