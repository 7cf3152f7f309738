package sigma_test

import (
	"bytes"
	"math/big"
	"testing"

	"mintvault/api"
	"mintvault/sigma"
)

// openWith is the proof with these nonces.
func openWith(k, m, value, blind *big.Int) []byte {
	first := commit(k, m)
	c := challenge("open", []byte("commit"), commit(value, blind), []byte("first"), first)
	return join(first, answer(k, c, value), answer(m, c, blind))
}

func openProof(value, blind *big.Int) []byte {
	return openWith(chance("nonce value", of(value), of(blind)), chance("nonce blind", of(value), of(blind)), value, blind)
}

func TestProveOpen(t *testing.T) {
	all := append(secrets(), count(0))
	for _, value := range all {
		for _, blind := range all {
			got, errno := sigma.ProveOpen(of(value), of(blind))
			is(t, "Q5: ProveOpen", got, errno, openProof(value, blind))
			holds(t, "Q5: a right proof", sigma.VerifyOpen(commit(value, blind), got))
		}
	}
}

func TestProveOpenOfNone(t *testing.T) {
	for _, none := range noScalars() {
		for _, other := range [][]byte{of(count(0)), of(count(1)), none, nil} {
			got, errno := sigma.ProveOpen(none, other)
			fails(t, "Q5: a value that is none", got, errno, api.ErrScalar)
			got, errno = sigma.ProveOpen(other, none)
			fails(t, "Q5: a blind that is none", got, errno, api.ErrScalar)
		}
	}
}

// Also where both nonces are 0, and the first message nothing.
func TestVerifyOpenOfAnyNonce(t *testing.T) {
	all := []*big.Int{count(0), count(1), less(order(), count(1)), ordinary("k")}
	for _, k := range all {
		for _, m := range all {
			holds(t, "Q5: other nonces", sigma.VerifyOpen(commit(count(5), count(7)), openWith(k, m, count(5), count(7))))
			holds(t, "Q5: other nonces, of nothing", sigma.VerifyOpen(nothing(), openWith(k, m, count(0), count(0))))
		}
	}
}

func TestVerifyOpenOfEveryBit(t *testing.T) {
	for _, blind := range []*big.Int{count(0), ordinary("blind")} {
		value := ordinary("value")
		c, proof := commit(value, blind), openProof(value, blind)
		for i, bad := range flips(proof) {
			if sigma.VerifyOpen(c, bad) {
				t.Errorf("Q5: bit %d of the proof is another", i)
			}
		}
		for i, bad := range flips(c) {
			if sigma.VerifyOpen(bad, proof) {
				t.Errorf("Q5: bit %d of the commit is another", i)
			}
		}
	}
}

func TestVerifyOpenOfAnother(t *testing.T) {
	value, blind := ordinary("value"), ordinary("blind")
	c, proof := commit(value, blind), openProof(value, blind)
	for _, other := range append(points(), commit(blind, value), opposite(c), nothing()) {
		wrong(t, "Q5: another commit", sigma.VerifyOpen(other, proof))
		wrong(t, "Q5: another T", sigma.VerifyOpen(c, with(proof, 0, other)))
	}
	wrong(t, "Q5: s and t exchanged", sigma.VerifyOpen(c, join(proof[:33], proof[65:], proof[33:65])))
	wrong(t, "Q5: one more of s, one fewer of t", sigma.VerifyOpen(c, join(proof[:33], of(add(number(proof[33:65]), count(1))), of(less(number(proof[65:]), count(1))))))
	wrong(t, "Q5: a proof of nothing", sigma.VerifyOpen(c, openProof(count(0), count(0))))
}

func TestVerifyOpenOfNoPoint(t *testing.T) {
	value, blind := ordinary("value"), ordinary("blind")
	c, proof := commit(value, blind), openProof(value, blind)
	for _, none := range noPoints() {
		wrong(t, "Q5: a commit that is none", sigma.VerifyOpen(none, proof))
		wrong(t, "Q5: a T that is none", sigma.VerifyOpen(c, join(none, proof[33:])))
	}
}

// Of nothing the challenge does not count, so that only the scalars' form tells 0 and Order apart.
func TestVerifyOpenOfNoScalar(t *testing.T) {
	for n := range int64(3) {
		zero, over := count(n), add(order(), count(n))
		holds(t, "Q5: s and t are scalars", sigma.VerifyOpen(nothing(), join(commit(zero, zero), whole(zero), whole(zero))))
		wrong(t, "Q5: s is Order or above", sigma.VerifyOpen(nothing(), join(commit(zero, zero), whole(over), whole(zero))))
		wrong(t, "Q5: t is Order or above", sigma.VerifyOpen(nothing(), join(commit(zero, zero), whole(zero), whole(over))))
	}
	value, blind := ordinary("value"), ordinary("blind")
	c, proof := commit(value, blind), openProof(value, blind)
	for _, none := range noScalars() {
		wrong(t, "Q5: s is none", sigma.VerifyOpen(c, join(proof[:33], none, proof[65:])))
		wrong(t, "Q5: t is none", sigma.VerifyOpen(c, join(proof[:65], none)))
	}
}

func TestVerifyOpenOfOtherLengths(t *testing.T) {
	value, blind := count(5), count(7)
	c, proof := commit(value, blind), openProof(value, blind)
	for _, bad := range [][]byte{nil, {}, proof[:33], proof[:65], proof[:96], proof[1:], append(proof[:97:97], 0), append([]byte{0}, proof...), join(proof, proof), bytes.Repeat([]byte{255}, 97)} {
		wrong(t, "Q5: a proof of another length", sigma.VerifyOpen(c, bad))
		wrong(t, "Q5: a proof of another length, of nothing", sigma.VerifyOpen(nothing(), bad))
	}
	wrong(t, "Q5: 96 bytes 0, of nothing", sigma.VerifyOpen(nothing(), make([]byte, 96)))
	holds(t, "Q5: 97 bytes 0, of nothing", sigma.VerifyOpen(nothing(), make([]byte, 97)))
	wrong(t, "Q5: 98 bytes 0, of nothing", sigma.VerifyOpen(nothing(), make([]byte, 98)))
	wrong(t, "Q5: nothing at all", sigma.VerifyOpen(nil, nil))
	wrong(t, "Q5: nothing at all", sigma.VerifyOpen([]byte{}, []byte{}))
}
