package curve

import (
	"slices"

	"mintvault/group"
	"mintvault/scalar"
)

// Term is a point, and how often it is taken.
type Term struct {
	Times scalar.Scalar
	Point Point
}

// Sum is a point that is not worked out yet; Sum(nil) is nothing. Scalars are reckoned with at little cost and points at a great one, so proofs reckon with sums as long as they can.
type Sum []Term

// Times is the sum so many times.
func (s Sum) Times(n scalar.Scalar) Sum {
	all := make(Sum, len(s))
	for i, t := range s {
		all[i] = Term{n.Times(t.Times), t.Point}
	}
	return all
}

// Plus is both together.
func (s Sum) Plus(t Sum) Sum { return slices.Concat(s, t) }

// Minus is the one less the other.
func (s Sum) Minus(t Sum) Sum { return s.Plus(t.Times(scalar.Of(1).Opposite())) }

// Point works it out, all terms together, so that what is doubled on the way is doubled once for all of them. There may be as many different points as group.Sum takes: no proof has so many, and no books have.
func (s Sum) Point() Point {
	var n, a [][]byte
	for _, t := range s.merged() {
		n, a = append(n, t.Times.Bytes()), append(a, t.Point.Bytes())
	}
	b, _ := group.Sum(n, a)
	return Point(b)
}

// merged has each point once, in the order in which they first come, and none that is taken 0 times.
func (s Sum) merged() Sum {
	places := map[Point]int{}
	var all Sum
	for _, t := range s {
		place, ok := places[t.Point]
		if !ok {
			places[t.Point] = len(all)
			all = append(all, t)
			continue
		}
		all[place].Times = all[place].Times.Plus(t.Times)
	}
	return slices.DeleteFunc(all, Term.none)
}

func (t Term) none() bool { return t.Times == scalar.Scalar{} }
