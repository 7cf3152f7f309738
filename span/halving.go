package span

import (
	"mintvault/api"
	"mintvault/curve"
	"mintvault/parse"
	"mintvault/scalar"
)

const maxHalvings = 6

// halvings is how often a list of n entries is halved until one is left, if it may have so many.
func halvings(n int) (int, bool) {
	for times := range maxHalvings + 1 {
		if n == 1<<times {
			return times, true
		}
	}
	return 0, false
}

// proveHalving makes two points and half the lists of what there is, until one entry of each is left.
func proveHalving(l log, s ground, a, b []scalar.Scalar) api.Inner {
	var proof api.Inner
	for len(a) > 1 {
		half := len(a) / 2
		forLeft, forRight := s.crossed()
		left := forLeft.hide(a[:half], b[half:]).Point()
		right := forRight.hide(a[half:], b[:half]).Point()
		proof.L, proof.R = append(proof.L, left.Bytes()), append(proof.R, right.Bytes())
		x := l.challengeAfter("left", left, "right", right)
		inverse := x.Inverse()
		a, b, s = folded(a, x, inverse), folded(b, inverse, x), s.folded(x)
	}
	proof.A, proof.B = a[0].Bytes(), b[0].Bytes()
	return proof
}

// inner is a proof of a product as values.
type inner struct {
	lefts, rights []curve.Point
	a, b          scalar.Scalar
}

// readInner takes a proof of so many halvings, if it is one; how many there are is looked at first, so that a long list costs nothing.
func readInner(p api.Inner, times int) (inner, bool) {
	if len(p.L) != times || len(p.R) != times {
		return inner{}, false
	}
	left, okLeft := parse.All(curve.Read, p.L...)
	right, okRight := parse.All(curve.Read, p.R...)
	ends, okEnds := parse.All(scalar.Read, p.A, p.B)
	if !okLeft || !okRight || !okEnds {
		return inner{}, false
	}
	return inner{left, right, ends[0], ends[1]}, true
}

// right goes the way of the halving with the points that were told. What must be one point and what is found are worked out as one sum, which must be nothing.
func (p inner) right(l log, s ground, hiding curve.Sum) bool {
	for i := range p.lefts {
		x := l.challengeAfter("left", p.lefts[i], "right", p.rights[i])
		square := x.Times(x)
		hiding = hiding.Plus(p.lefts[i].Times(square)).Plus(p.rights[i].Times(square.Inverse()))
		s = s.folded(x)
	}
	end := s.hide([]scalar.Scalar{p.a}, []scalar.Scalar{p.b})
	return end.Minus(hiding).Point() == curve.Point{}
}
