package span_test

import (
	"bytes"
	"math/big"

	"mintvault/api"
	"mintvault/group"
)

// proving is who proves a range, as the document's words go, with whatever lists and chances it takes: it need not be honest.
type proving struct {
	value, blind           *big.Int
	bits                   int
	l, m, s, q             []*big.Int
	alpha, rho, tau1, tau2 *big.Int
	told                   func(*big.Int) []byte // of Tau and Mu
	claimed                *big.Int              // how much more than the lists' sum the value is said to be in T
}

func honest(value uint64, blind *big.Int, bits int, seed []byte) *proving {
	p := &proving{value: new(big.Int).SetUint64(value), blind: blind, bits: bits, told: of, claimed: count(0)}
	p.alpha, p.rho, p.tau1, p.tau2 = chance("alpha", seed), chance("rho", seed), chance("tau1", seed), chance("tau2", seed)
	for i := range bits {
		bit := count(int64(value >> i & 1))
		p.l, p.m = append(p.l, bit), append(p.m, less(bit, count(1)))
		p.s, p.q = append(p.s, chance("sl", seed, four(i))), append(p.q, chance("sr", seed, four(i)))
	}
	return p
}

func (p *proving) commit() []byte { return commit(p.value, p.blind) }

// at is the two lists with X = x.
func (p *proving) at(x, y, z *big.Int) (a, b []*big.Int) {
	for i := range p.bits {
		a = append(a, add(less(p.l[i], z), mul(p.s[i], x)))
		open := add(add(p.m[i], z), mul(p.q[i], x))
		b = append(b, add(mul(raised(y, i), open), mul(mul(z, z), power(uint(i)))))
	}
	return a, b
}

// factors are t1 and t2, out of the product at 0, 1 and -1.
func (p *proving) factors(y, z *big.Int) (t1, t2 *big.Int) {
	at := func(x int64) *big.Int { return dot(p.at(count(x), y, z)) }
	half := inverse(count(2))
	t2 = less(mul(half, add(at(1), at(-1))), at(0))
	return less(less(at(1), at(0)), t2), t2
}

func (p *proving) proof() api.Range {
	var r api.Range
	s := groundOf(p.bits)
	r.A = plus(public(p.alpha), sum(p.l, s.g), sum(p.m, s.h))
	r.S = plus(public(p.rho), sum(p.s, s.g), sum(p.q, s.h))
	log := newTalk("range")
	log.say("commit", p.commit())
	log.say("bits", []byte{byte(p.bits)})
	log.say("first", r.A)
	log.say("second", r.S)
	y, z := log.challenge(), log.challenge()

	t1, t2 := p.factors(y, z)
	r.T1, r.T2 = commit(t1, p.tau1), commit(t2, p.tau2)
	log.say("third", r.T1)
	log.say("fourth", r.T2)
	x := log.challenge()

	a, b := p.at(x, y, z)
	r.T = of(add(dot(a, b), mul(mul(z, z), p.claimed)))
	r.Tau = p.told(add(add(mul(p.tau1, x), mul(p.tau2, mul(x, x))), mul(mul(z, z), p.blind)))
	r.Mu = p.told(add(p.alpha, mul(p.rho, x)))
	log.say("sums", bytes.Join([][]byte{r.Tau, r.Mu, r.T}, nil))
	w := log.challenge()

	r.Inner = halving(log, a, b, s.turned(y, w))
	return r
}

func (s ground) turned(y, w *big.Int) ground {
	turned := ground{g: s.g, u: times(w, s.u)}
	for i, h := range s.h {
		turned.h = append(turned.h, times(inverse(raised(y, i)), h))
	}
	return turned
}

// looksAtRange is whoever looks at a proof that is made of points and scalars.
func looksAtRange(c []byte, bits int, r api.Range) bool {
	log := newTalk("range")
	log.say("commit", c)
	log.say("bits", []byte{byte(bits)})
	log.say("first", r.A)
	log.say("second", r.S)
	y, z := log.challenge(), log.challenge()
	log.say("third", r.T1)
	log.say("fourth", r.T2)
	x := log.challenge()
	log.say("sums", bytes.Join([][]byte{r.Tau, r.Mu, r.T}, nil))
	w := log.challenge()

	zz, ys := mul(z, z), count(0)
	for i := range bits {
		ys = add(ys, raised(y, i))
	}
	d := less(mul(less(z, zz), ys), mul(mul(zz, z), less(power(uint(bits)), count(1))))
	want := plus(times(zz, c), times(d, hash("value", nil)), times(x, r.T1), times(mul(x, x), r.T2))
	if !bytes.Equal(commit(number(r.T), number(r.Tau)), want) {
		return false
	}
	s := groundOf(bits)
	p := plus(r.A, times(x, r.S), times(less(order(), number(r.Mu)), group.Base()), times(mul(number(r.T), w), s.u))
	for i := range bits {
		shift := add(z, mul(mul(zz, power(uint(i))), inverse(raised(y, i))))
		p = plus(p, times(less(count(0), z), s.g[i]), times(shift, s.h[i]))
	}
	return looks(log, s.turned(y, w), p, r.Inner)
}
