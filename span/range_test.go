package span_test

import (
	"bytes"
	"encoding/hex"
	"math/big"
	"slices"
	"strconv"
	"testing"

	"mintvault/api"
	"mintvault/group"
	"mintvault/span"
	"mintvault/sponge"
)

func widths() []int { return []int{8, 16, 32, 64} }

// top is the highest value of so many bits.
func top(bits int) uint64 { return 1<<bits - 1 }

func seed() []byte { return some(32, "seed") }

func sameRange(a, b api.Range) bool {
	return slices.EqualFunc(fixed(a), fixed(b), bytes.Equal) && sameInner(a.Inner, b.Inner)
}

// fixed are the parts that are no lists.
func fixed(p api.Range) [][]byte {
	return [][]byte{p.A, p.S, p.T1, p.T2, p.Tau, p.Mu, p.T, p.Inner.A, p.Inner.B}
}

func TestProveExample(t *testing.T) {
	p, errno := span.Prove(5, of(count(7)), 8, make([]byte, 32))
	if errno != api.OK {
		t.Fatalf("B3: %d", errno)
	}
	b, errno := span.Put(p)
	if got := hex.EncodeToString(sponge.Hash(b)[:8]); errno != api.OK || len(b) != 491 || got != "206c79c591825a59" {
		t.Errorf("B3: %d bytes, %s, %d", len(b), got, errno)
	}
}

func provesRange(t *testing.T, what string, value uint64, blind *big.Int, bits int, seed []byte) {
	t.Helper()
	h := honest(value, blind, bits, seed)
	want := h.proof()
	p, errno := span.Prove(value, of(blind), bits, seed)
	if errno != api.OK || !sameRange(p, want) {
		t.Errorf("B3: %s, %d of %d bits: %x, %d, want %x", what, value, bits, p, errno, want)
	}
	holds(t, "B4: "+what, span.Verify(h.commit(), bits, p))
}

func TestProve(t *testing.T) {
	for _, bits := range widths() {
		for _, value := range []uint64{0, 1, top(bits)} {
			provesRange(t, "an edge", value, ordinary("blind"), bits, seed())
		}
		provesRange(t, "ordinary", 0xa5c3_9617_42e8_d1b9&top(bits), ordinary("r"), bits, some(32, "another"))
	}
}

func TestProveWithBlinds(t *testing.T) {
	for _, blind := range []*big.Int{count(0), count(1), less(order(), count(1))} {
		for _, value := range []uint64{0, 1, 128, 255} {
			provesRange(t, "a blind of an edge", value, blind, 8, seed())
		}
	}
	provesRange(t, "a seed of 0", 3, count(4), 8, make([]byte, 32))
	provesRange(t, "a seed of 255", 3, count(4), 8, bytes.Repeat([]byte{255}, 32))
}

func failsRange(t *testing.T, what string, value uint64, blind []byte, bits int, seed []byte, want api.Errno) {
	t.Helper()
	p, errno := span.Prove(value, blind, bits, seed)
	if errno != want || !sameRange(p, api.Range{}) {
		t.Errorf("B3: %s: %x, %d, want %d", what, p, errno, want)
	}
}

func TestProveOfOtherBits(t *testing.T) {
	for _, bits := range []int{0, 1, 2, 3, 4, 7, 9, 12, 15, 17, 24, 31, 33, 63, 65, 128, 256, 264, 1 << 40, -1, -8, -64, -1 << 63} {
		failsRange(t, "bits of "+strconv.Itoa(bits), 0, of(count(7)), bits, seed(), api.ErrForm)
		failsRange(t, "bits, and no scalar, and a great value", 1<<63, nil, bits, seed(), api.ErrForm)
	}
}

func TestProveWithOtherSeeds(t *testing.T) {
	for _, bits := range widths() {
		for _, n := range []int{0, 1, 31, 33, 64} {
			failsRange(t, "a seed of another length", 0, of(count(7)), bits, make([]byte, n), api.ErrForm)
			failsRange(t, "a seed, and no scalar", 0, nil, bits, make([]byte, n), api.ErrForm)
			failsRange(t, "a seed, and a great value", 1<<63, of(count(7)), bits, make([]byte, n), api.ErrForm)
			failsRange(t, "a seed, no scalar, and a great value", 1<<63, whole(order()), bits, make([]byte, n), api.ErrForm)
		}
		failsRange(t, "no seed", 0, of(count(7)), bits, nil, api.ErrForm)
	}
	failsRange(t, "a seed and bits", 0, of(count(7)), 7, make([]byte, 31), api.ErrForm)
}

func TestProveWithOtherBlinds(t *testing.T) {
	for _, bits := range widths() {
		for _, none := range noScalars() {
			failsRange(t, "a blind that is none", 0, none, bits, seed(), api.ErrScalar)
			failsRange(t, "a blind that is none, and a great value", 1<<63, none, bits, seed(), api.ErrScalar)
		}
	}
}

func TestProveOfGreatValues(t *testing.T) {
	for _, bits := range []int{8, 16, 32} {
		for _, value := range []uint64{1 << bits, 1<<bits + 1, 2 << bits, 1 << 63, 1<<64 - 1} {
			failsRange(t, "a value of too many bits", value, of(count(7)), bits, seed(), api.ErrRange)
		}
	}
}

// claim is a right proof, and what it is for.
type claim struct {
	commit []byte
	bits   int
	proof  api.Range
}

func makeRange(value uint64, bits int) claim {
	p, _ := span.Prove(value, of(ordinary("blind")), bits, seed())
	return claim{commit(new(big.Int).SetUint64(value), ordinary("blind")), bits, p}
}

func (c claim) is(t *testing.T, what string, want bool) {
	t.Helper()
	if span.Verify(c.commit, c.bits, c.proof) != want {
		t.Errorf("B4: %s, %d bits: %v", what, c.bits, !want)
	}
}

func TestVerifyForAnother(t *testing.T) {
	for _, bits := range widths() {
		c := makeRange(200, bits)
		c.is(t, "right", true)
		for _, other := range []int{-64, -8, -1, 0, 1, 2, 4, 7, 8, 9, 16, 24, 32, 64, 65, 128, 256, bits + 256, 1 << 40, -1 << 63} {
			claim{c.commit, other, c.proof}.is(t, "bits of "+strconv.Itoa(other), other == bits)
		}
		for _, other := range [][]byte{nothing(), group.Base(), commit(count(201), ordinary("blind")), commit(count(200), count(0)), ok(group.Minus(c.commit))} {
			claim{other, bits, c.proof}.is(t, "another commit", false)
		}
		for _, none := range noPoints() {
			claim{none, bits, c.proof}.is(t, "a commit that is none", false)
		}
		claim{c.commit, bits, api.Range{}}.is(t, "no proof", false)
		claim{nothing(), bits, api.Range{}}.is(t, "no proof of nothing", false)
		claim{nil, bits, api.Range{}}.is(t, "nothing at all", false)
		claim{c.commit, bits, makeRange(201, bits).proof}.is(t, "the proof of another value", false)
	}
}

func TestVerifyOfACommitThatIsNothing(t *testing.T) {
	for _, bits := range widths() {
		p, errno := span.Prove(0, of(count(0)), bits, seed())
		if errno != api.OK {
			t.Errorf("B3: %d", errno)
		}
		claim{nothing(), bits, p}.is(t, "0 with the blind 0", true)
		claim{group.Base(), bits, p}.is(t, "G", false)
		for _, none := range noPoints() {
			claim{none, bits, p}.is(t, "no point, where nothing is right", false)
		}
	}
}

// pointParts and scalarParts are the places of these in a proof whose lists are its own.
func pointParts(p *api.Range) []*[]byte {
	all := []*[]byte{&p.A, &p.S, &p.T1, &p.T2}
	for i := range p.Inner.L {
		all = append(all, &p.Inner.L[i], &p.Inner.R[i])
	}
	return all
}

func scalarParts(p *api.Range) []*[]byte {
	return []*[]byte{&p.Tau, &p.Mu, &p.T, &p.Inner.A, &p.Inner.B}
}

func allParts(p *api.Range) []*[]byte { return append(pointParts(p), scalarParts(p)...) }

// copied can be changed at its places.
func (c claim) copied() claim {
	c.proof.Inner.L, c.proof.Inner.R = slices.Clone(c.proof.Inner.L), slices.Clone(c.proof.Inner.R)
	return c
}

// eachChanged looks at a copy of the claim for each place with each of what may stand there.
func (c claim) eachChanged(t *testing.T, what string, parts func(*api.Range) []*[]byte, change func([]byte) [][]byte) {
	t.Helper()
	for i, part := range parts(&c.proof) {
		for j, bad := range change(*part) {
			other := c.copied()
			*parts(&other.proof)[i] = bad
			other.is(t, what+", part "+strconv.Itoa(i)+", "+strconv.Itoa(j), false)
		}
	}
}

func TestVerifyWithOtherParts(t *testing.T) {
	for _, bits := range widths() {
		c := makeRange(top(bits)/3, bits)
		c.eachChanged(t, "a bit is another", allParts, func(b []byte) [][]byte {
			return [][]byte{flipped(b, 0), flipped(b, 8*16+3), flipped(b, 8*len(b)-1)}
		})
		c.eachChanged(t, "another length", allParts, func(b []byte) [][]byte {
			return [][]byte{nil, {}, b[1:], b[:len(b)-1], append([]byte{0}, b...), append(bytes.Clone(b), 0), make([]byte, 31), make([]byte, 34)}
		})
		c.eachChanged(t, "no point", pointParts, func([]byte) [][]byte { return noPoints() })
		c.eachChanged(t, "another point", pointParts, func(b []byte) [][]byte {
			return [][]byte{nothing(), group.Base(), ok(group.Minus(b)), c.commit}
		})
		c.eachChanged(t, "no scalar", scalarParts, func([]byte) [][]byte { return noScalars() })
		c.eachChanged(t, "another scalar", scalarParts, func(b []byte) [][]byte {
			return [][]byte{of(count(0)), of(add(number(b), count(1))), of(less(count(0), number(b)))}
		})
	}
}

func TestVerifyWithOtherLists(t *testing.T) {
	for _, bits := range widths() {
		c := makeRange(77, bits)
		for i, bad := range lists(c.proof.Inner.L)[:6] {
			other := c
			other.proof.Inner.L = bad
			other.is(t, "another L, "+strconv.Itoa(i), false)
			other = c
			other.proof.Inner.R = bad
			other.is(t, "another R, "+strconv.Itoa(i), false)
			other.proof.Inner.L = bad
			other.is(t, "another L and R, "+strconv.Itoa(i), false)
		}
		other := c
		other.proof.Inner.L, other.proof.Inner.R = c.proof.Inner.R, c.proof.Inner.L
		other.is(t, "L and R are exchanged", false)
		other = c
		other.proof.A, other.proof.S = c.proof.S, c.proof.A
		other.is(t, "A and S are exchanged", false)
		other = c
		other.proof.T1, other.proof.T2 = c.proof.T2, c.proof.T1
		other.is(t, "T1 and T2 are exchanged", false)
		other = c
		other.proof.Tau, other.proof.Mu = c.proof.Mu, c.proof.Tau
		other.is(t, "Tau and Mu are exchanged", false)
	}
}

func TestVerifyOfEveryByte(t *testing.T) {
	c := makeRange(77, 8)
	c.eachChanged(t, "a bit is another", allParts, func(b []byte) [][]byte {
		var all [][]byte
		for i := range b {
			all = append(all, flipped(b, 8*i+i%8))
		}
		return all
	})
}

func (p *proving) claim() claim { return claim{p.commit(), p.bits, p.proof()} }

// Other chances make other proofs, and all are right; also where points are nothing.
func TestVerifyOfAnyChances(t *testing.T) {
	for _, bits := range []int{8, 16} {
		p := honest(200, ordinary("r"), bits, seed())
		p.alpha, p.rho, p.tau1, p.tau2 = count(0), count(1), count(2), count(3)
		p.claim().is(t, "small chances", true)
		p.s, p.q = zeros(bits), zeros(bits)
		p.rho, p.tau1, p.tau2 = count(0), count(0), count(0)
		c := p.claim()
		for i, b := range [][]byte{c.proof.S, c.proof.T1, c.proof.T2} {
			if !bytes.Equal(b, nothing()) {
				t.Errorf("part %d is not nothing", i)
			}
		}
		c.is(t, "no chances", true)
		for _, none := range noPoints() {
			for _, part := range []*[]byte{&c.proof.S, &c.proof.T1, &c.proof.T2} {
				*part = none
				c.is(t, "no point, where nothing is right", false)
				*part = nothing()
			}
		}
	}
}

// A scalar has one form only, even where all else holds.
func TestVerifyOfSumsAboveOrder(t *testing.T) {
	p := honest(200, count(0), 8, seed())
	p.alpha, p.rho, p.tau1, p.tau2 = count(5), count(0), count(0), count(0)
	c := p.claim()
	c.is(t, "Tau is 0, Mu is 5", true)
	if number(c.proof.Tau).Sign() != 0 || number(c.proof.Mu).Cmp(count(5)) != 0 {
		t.Fatal("Tau is not 0, or Mu is not 5")
	}
	tau, mu := c, c
	tau.proof.Tau, mu.proof.Mu = whole(order()), whole(add(order(), count(5)))
	tau.is(t, "Tau is Order", false)
	mu.is(t, "Mu is Order + 5", false)
	p.told = func(n *big.Int) []byte { return whole(add(number(of(n)), order())) }
	p.claim().is(t, "Tau and Mu were said so, too", false)
}

// Who proves what is not so must not get through.
func TestVerifyOfLies(t *testing.T) {
	lie := func(change func(*proving)) claim {
		p := honest(5, ordinary("r"), 8, seed())
		change(p)
		return p.claim()
	}
	lie(func(*proving) {}).is(t, "no lie", true)
	lie(func(p *proving) { p.value = count(5 + 256) }).is(t, "a value of 9 bits, as the lowest 8", false)
	lie(func(p *proving) { p.value = count(6) }).is(t, "another value", false)
	lie(func(p *proving) { p.value = less(count(0), count(5)) }).is(t, "a value below 0", false)
	lie(func(p *proving) { p.value, p.l[7], p.m[7] = count(5+256), count(2), count(1) }).is(t, "a bit of 2", false)
	lie(func(p *proving) { p.value, p.l[0], p.m[0] = count(3), count(-1), count(-2) }).is(t, "a bit of -1", false)
	lie(func(p *proving) { p.value, p.l[1], p.m[1] = count(5+4), count(2), count(0) }).is(t, "a bit of 2, with 0", false)
	lie(func(p *proving) { p.value, p.claimed = count(5+256), count(256) }).is(t, "a T that is right for a value of 9 bits, not for the lists", false)
	lie(func(p *proving) { p.m[1] = count(0) }).is(t, "a bit less 1 that is none", false)
}

// Such a proof holds by itself, but bits must be one of the four.
func TestVerifyOfFewBits(t *testing.T) {
	for _, bits := range []int{1, 2, 4} {
		c := honest(1, ordinary("r"), bits, seed()).claim()
		holds(t, "the document's words but for the bits", looksAtRange(c.commit, bits, c.proof))
		c.is(t, "few bits", false)
	}
}

// Whoever looks must find just what the document's words find.
func TestVerifyAsTheDocumentLooks(t *testing.T) {
	for _, bits := range []int{8, 16} {
		c := makeRange(99, bits)
		for i, part := range append([]*[]byte{nil}, scalarParts(&c.proof)...) {
			other := c.copied()
			if part != nil {
				*scalarParts(&other.proof)[i-1] = of(add(number(*part), count(1)))
			}
			want := looksAtRange(other.commit, bits, other.proof)
			if want != (part == nil) {
				t.Fatalf("the reference finds %v", want)
			}
			other.is(t, "as the document looks", want)
		}
	}
}
