package span

import (
	"mintvault/curve"
	"mintvault/scalar"
)

// ground is the points that two lists and their product are hidden with. They are sums: what becomes of the ground as the lists are halved is reckoned with scalars, and points are worked out only where one is told or looked at.
type ground struct {
	g, h []curve.Sum
	u    curve.Sum
}

func groundOf(n int) ground {
	return ground{pointsOf("left", n), pointsOf("right", n), once(curve.Hash("inner", nil))}
}

func pointsOf(label string, n int) []curve.Sum {
	return listOf(n, func(i int) curve.Sum { return once(curve.Hash(label, numeral(i))) })
}

func once(a curve.Point) curve.Sum { return a.Times(scalar.Of(1)) }

// turned is the ground of a range: each h_i is divided by y^i, and u taken w times.
func (s ground) turned(y, w scalar.Scalar) ground {
	inverse := powers(y.Inverse(), len(s.h))
	h := listOf(len(s.h), func(i int) curve.Sum { return s.h[i].Times(inverse[i]) })
	return ground{s.g, h, s.u.Times(w)}
}

// lists hides two lists without their product.
func (s ground) lists(a, b []scalar.Scalar) curve.Sum {
	return combined(a, s.g).Plus(combined(b, s.h))
}

func (s ground) hide(a, b []scalar.Scalar) curve.Sum {
	return s.lists(a, b).Plus(s.u.Times(combined(a, b)))
}

// crossed is what the two points of a halving are made of: the second half of g with the first one of h, and the other way round.
func (s ground) crossed() (left, right ground) {
	half := len(s.g) / 2
	return ground{s.g[half:], s.h[:half], s.u}, ground{s.g[:half], s.h[half:], s.u}
}

func (s ground) folded(x scalar.Scalar) ground {
	inverse := x.Inverse()
	return ground{folded(s.g, inverse, x), folded(s.h, x, inverse), s.u}
}
