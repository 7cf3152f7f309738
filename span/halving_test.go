package span_test

import (
	"bytes"
	"math/big"

	"mintvault/api"
)

// ground is the points of a halving, worked out each time, as the document's words go.
type ground struct {
	g, h [][]byte
	u    []byte
}

func groundOf(n int) ground {
	s := ground{u: hash("inner", nil)}
	for i := range n {
		s.g, s.h = append(s.g, hash("left", four(i))), append(s.h, hash("right", four(i)))
	}
	return s
}

// mixed is x low + y high, entry by entry.
func mixed(x *big.Int, low []*big.Int, y *big.Int, high []*big.Int) []*big.Int {
	var all []*big.Int
	for i := range low {
		all = append(all, add(mul(x, low[i]), mul(y, high[i])))
	}
	return all
}

func mixedPoints(x *big.Int, low [][]byte, y *big.Int, high [][]byte) [][]byte {
	var all [][]byte
	for i := range low {
		all = append(all, sum([]*big.Int{x, y}, [][]byte{low[i], high[i]}))
	}
	return all
}

func (s ground) halved(x *big.Int) ground {
	n := len(s.g) / 2
	return ground{mixedPoints(inverse(x), s.g[:n], x, s.g[n:]), mixedPoints(x, s.h[:n], inverse(x), s.h[n:]), s.u}
}

func (l *talk) halving(left, right []byte) *big.Int {
	l.say("left", left)
	l.say("right", right)
	return l.challenge()
}

func halving(l *talk, a, b []*big.Int, s ground) api.Inner {
	var proof api.Inner
	for len(a) > 1 {
		n := len(a) / 2
		left := plus(sum(a[:n], s.g[n:]), sum(b[n:], s.h[:n]), times(dot(a[:n], b[n:]), s.u))
		right := plus(sum(a[n:], s.g[:n]), sum(b[:n], s.h[n:]), times(dot(a[n:], b[:n]), s.u))
		proof.L, proof.R = append(proof.L, left), append(proof.R, right)
		x := l.halving(left, right)
		a, b, s = mixed(x, a[:n], inverse(x), a[n:]), mixed(inverse(x), b[:n], x, b[n:]), s.halved(x)
	}
	proof.A, proof.B = of(a[0]), of(b[0])
	return proof
}

// looks is whoever looks at a proof that is made of points and scalars.
func looks(l *talk, s ground, p []byte, proof api.Inner) bool {
	for i := range proof.L {
		x := l.halving(proof.L[i], proof.R[i])
		p = plus(times(mul(x, x), proof.L[i]), p, times(inverse(mul(x, x)), proof.R[i]))
		s = s.halved(x)
	}
	a, b := number(proof.A), number(proof.B)
	return bytes.Equal(p, plus(times(a, s.g[0]), times(b, s.h[0]), times(mul(a, b), s.u)))
}

func productTalk(label string, point []byte) *talk {
	l := newTalk("product")
	l.say("label", []byte(label))
	l.say("point", point)
	return l
}

func inner(label string, a, b []*big.Int) ([]byte, api.Inner) {
	s := groundOf(len(a))
	point := plus(sum(a, s.g), sum(b, s.h), times(dot(a, b), s.u))
	return point, halving(productTalk(label, point), a, b, s)
}
