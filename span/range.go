package span

import (
	"math"
	"slices"

	"mintvault/api"
	"mintvault/curve"
	"mintvault/parse"
	"mintvault/scalar"
)

const (
	leastBits = 8
	wordBits  = 64
	seedBytes = 32
)

func isWidth(bits int) bool {
	_, ok := halvings(bits)
	return ok && bits >= leastBits
}

// greatest is the highest value of so many bits.
func greatest(bits int) uint64 { return math.MaxUint64 >> (wordBits - bits) }

// ranged is a proof of a range as values, but for the halving at its end. Who proves fills it piece by piece, and asks for each challenge as soon as what is said ahead of it is there; so both sides ask in one way.
type ranged struct {
	a, s, t1, t2 curve.Point
	tau, mu, t   scalar.Scalar
}

func (p ranged) begin(commit curve.Point, bits int) (l log, y, z scalar.Scalar) {
	l = newLog("range")
	l.Say("commit", commit[:])
	l.Say("bits", []byte{byte(bits)})
	y = l.challengeAfter("first", p.a, "second", p.s)
	return l, y, l.Challenge()
}

func (p ranged) middle(l log) (x scalar.Scalar) {
	return l.challengeAfter("third", p.t1, "fourth", p.t2)
}

func (p ranged) end(l log) (w scalar.Scalar) {
	l.Say("sums", slices.Concat(p.tau.Bytes(), p.mu.Bytes(), p.t.Bytes()))
	return l.Challenge()
}

// shifts are what is added to the two lists, so that what they must be for the value to be in the range shows in their product alone: -z, and z y^i + z^2 2^i.
func shifts(y, z scalar.Scalar, bits int) (left, right []scalar.Scalar) {
	ys, twos, square := powers(y, bits), powers(scalar.Of(2), bits), z.Times(z)
	left = slices.Repeat([]scalar.Scalar{z.Opposite()}, bits)
	right = listOf(bits, func(i int) scalar.Scalar { return z.Times(ys[i]).Plus(square.Times(twos[i])) })
	return left, right
}

// proveRange goes by the document's steps.
func proveRange(value uint64, r scalar.Scalar, bits int, seed []byte) api.Range {
	alpha, rho := scalar.Chance("alpha", seed), scalar.Chance("rho", seed)
	tau1, tau2 := scalar.Chance("tau1", seed), scalar.Chance("tau2", seed)
	left, right := lines(value, bits, seed)
	s, g := groundOf(bits), curve.Generator()
	var p ranged
	p.a = g.Times(alpha).Plus(s.lists(left.still, right.still)).Point()
	p.s = g.Times(rho).Plus(s.lists(left.moved, right.moved)).Point()
	l, y, z := p.begin(curve.Commit(scalar.Of(value), r), bits)

	onLeft, onRight := shifts(y, z, bits)
	left, right = left.plus(onLeft), right.times(powers(y, bits)).plus(onRight)
	t1, t2 := left.product(right)
	p.t1, p.t2 = curve.Commit(t1, tau1), curve.Commit(t2, tau2)
	x := p.middle(l)

	a, b := left.at(x), right.at(x)
	p.t = combined(a, b)
	p.tau = tau1.Times(x).Plus(tau2.Times(x).Times(x)).Plus(z.Times(z).Times(r))
	p.mu = alpha.Plus(rho.Times(x))
	w := p.end(l)
	return p.told(proveHalving(l, s.turned(y, w), a, b))
}

func (p ranged) told(i api.Inner) api.Range {
	return api.Range{
		A: p.a.Bytes(), S: p.s.Bytes(), T1: p.t1.Bytes(), T2: p.t2.Bytes(),
		Tau: p.tau.Bytes(), Mu: p.mu.Bytes(), T: p.t.Bytes(),
		Inner: i,
	}
}

// verifyRange reads a proof and looks at it.
func verifyRange(commit curve.Point, bits int, proof api.Range) bool {
	times, _ := halvings(bits)
	i, okInner := readInner(proof.Inner, times)
	points, okPoints := parse.All(curve.Read, proof.A, proof.S, proof.T1, proof.T2)
	sums, okSums := parse.All(scalar.Read, proof.Tau, proof.Mu, proof.T)
	if !okInner || !okPoints || !okSums {
		return false
	}
	p := ranged{points[0], points[1], points[2], points[3], sums[0], sums[1], sums[2]}
	l, y, z := p.begin(commit, bits)
	x := p.middle(l)
	s := groundOf(bits).turned(y, p.end(l))
	return p.sumsRight(commit, bits, x, y, z) && i.right(l, s, p.hiding(s, bits, x, y, z))
}

// sumsRight tells whether T is what the product of the two lists is for a value with so many bits, whatever the value.
func (p ranged) sumsRight(commit curve.Point, bits int, x, y, z scalar.Scalar) bool {
	square := z.Times(z)
	ones := slices.Repeat([]scalar.Scalar{scalar.Of(1)}, bits)
	d := z.Minus(square).Times(combined(ones, powers(y, bits))).Minus(square.Times(z).Times(scalar.Of(greatest(bits))))
	// d H is taken to the other side, where it is a part of what is hidden.
	want := commit.Times(square).Plus(p.t1.Times(x)).Plus(p.t2.Times(x.Times(x)))
	return curve.Commit(p.t.Minus(d), p.tau) == want.Point()
}

// hiding is the point of the halving, as it comes out of what was told. On this ground, where h_i is RIGHT(i) / y^i, its lists are those that were added.
func (p ranged) hiding(s ground, bits int, x, y, z scalar.Scalar) curve.Sum {
	told := once(p.a).Plus(p.s.Times(x)).Minus(curve.Generator().Times(p.mu))
	return told.Plus(s.lists(shifts(y, z, bits))).Plus(s.u.Times(p.t))
}
