package sigma_test

import (
	"bytes"
	"math/big"
	"testing"

	"mintvault/api"
	"mintvault/group"
	"mintvault/sigma"
)

func sameChallenge(base, a, b, first, second []byte) *big.Int {
	return challenge("same", []byte("base"), base, []byte("a"), a, []byte("b"), b, []byte("first"), first, []byte("second"), second)
}

// sameWith is the proof with this nonce; the secret may be 0, the base nothing.
func sameWith(k, x *big.Int, base []byte) []byte {
	c := sameChallenge(base, public(x), times(x, base), public(k), times(k, base))
	return join(of(c), answer(k, c, x))
}

func sameProof(x *big.Int, base []byte) []byte {
	return sameWith(chance("nonce same", of(x), base), x, base)
}

func TestProveSame(t *testing.T) {
	for _, x := range secrets() {
		for _, base := range points() {
			got, errno := sigma.ProveSame(of(x), base)
			is(t, "Q4: ProveSame", got, errno, sameProof(x, base))
			holds(t, "Q4: a right proof", sigma.VerifySame(public(x), base, times(x, base), got))
		}
	}
}

func TestProveSameOfNone(t *testing.T) {
	for _, base := range append(noPoints(), nothing()) {
		for _, x := range secrets() {
			got, errno := sigma.ProveSame(of(x), base)
			fails(t, "Q4: a base that is none", got, errno, api.ErrPoint)
		}
	}
	for _, secret := range append(noScalars(), make([]byte, 32)) {
		for _, base := range append(append(noPoints(), nothing()), points()...) {
			got, errno := sigma.ProveSame(secret, base)
			fails(t, "Q4: a secret that is none", got, errno, api.ErrScalar)
		}
	}
}

func TestVerifySameOfAnyNonce(t *testing.T) {
	x, base := ordinary("x"), public(ordinary("base"))
	for _, k := range append(secrets(), count(0)) {
		holds(t, "Q4: another nonce", sigma.VerifySame(public(x), base, times(x, base), sameWith(k, x, base)))
	}
}

func TestVerifySameOfEveryBit(t *testing.T) {
	x, base := ordinary("x"), public(ordinary("base"))
	a, b, proof := public(x), times(x, base), sameProof(x, base)
	for i, bad := range flips(proof) {
		if sigma.VerifySame(a, base, b, bad) {
			t.Errorf("Q4: bit %d of the proof is another", i)
		}
	}
	for i := range flips(a) {
		if sigma.VerifySame(flips(a)[i], base, b, proof) || sigma.VerifySame(a, flips(base)[i], b, proof) || sigma.VerifySame(a, base, flips(b)[i], proof) {
			t.Errorf("Q4: bit %d of a point is another", i)
		}
	}
}

func TestVerifySameOfAnother(t *testing.T) {
	x, base := ordinary("x"), public(ordinary("base"))
	a, b, proof := public(x), times(x, base), sameProof(x, base)
	wrong(t, "Q4: a and b exchanged", sigma.VerifySame(b, base, a, proof))
	wrong(t, "Q4: a and base exchanged", sigma.VerifySame(base, a, b, proof))
	wrong(t, "Q4: base and b exchanged", sigma.VerifySame(a, b, base, proof))
	wrong(t, "Q4: c and z exchanged", sigma.VerifySame(a, base, b, join(proof[32:], proof[:32])))
	wrong(t, "Q4: all of them opposite", sigma.VerifySame(opposite(a), opposite(base), opposite(b), proof))
	for _, other := range points() {
		wrong(t, "Q4: another a", sigma.VerifySame(other, base, b, proof))
		wrong(t, "Q4: another base", sigma.VerifySame(a, other, b, proof))
		wrong(t, "Q4: another b", sigma.VerifySame(a, base, other, proof))
	}
}

// The proof for a and b of two secrets answers for one of them.
func TestVerifySameOfTwoSecrets(t *testing.T) {
	x, y, k, base := ordinary("x"), ordinary("y"), ordinary("k"), public(ordinary("base"))
	a, b := public(x), times(y, base)
	c := sameChallenge(base, a, b, public(k), times(k, base))
	for _, z := range [][]byte{answer(k, c, x), answer(k, c, y)} {
		wrong(t, "Q4: a and b of two secrets", sigma.VerifySame(a, base, b, join(of(c), z)))
	}
}

// In each of these the equations hold, but for what is nothing.
func TestVerifySameOfNothing(t *testing.T) {
	x, k, base := ordinary("x"), ordinary("k"), public(ordinary("base"))
	wrong(t, "Q4: a and b are nothing", sigma.VerifySame(nothing(), base, nothing(), sameWith(k, count(0), base)))
	wrong(t, "Q4: base and b are nothing", sigma.VerifySame(public(x), nothing(), nothing(), sameWith(k, x, nothing())))
	wrong(t, "Q4: all are nothing", sigma.VerifySame(nothing(), nothing(), nothing(), sameWith(k, count(0), nothing())))
	a, b, proof := public(x), times(x, base), sameProof(x, base)
	for _, none := range append(noPoints(), nothing()) {
		wrong(t, "Q4: a is none", sigma.VerifySame(none, base, b, proof))
		wrong(t, "Q4: base is none", sigma.VerifySame(a, none, b, proof))
		wrong(t, "Q4: b is none", sigma.VerifySame(a, base, none, proof))
	}
}

func TestVerifySameOfNoProof(t *testing.T) {
	x, base := ordinary("x"), public(ordinary("base"))
	a, b, proof := public(x), times(x, base), sameProof(x, base)
	bad := [][]byte{nil, {}, proof[:32], proof[:63], proof[1:], append(proof[:64:64], 0), append([]byte{0}, proof...), join(proof, proof), make([]byte, 64), bytes.Repeat([]byte{255}, 64)}
	for _, none := range noScalars() {
		bad = append(bad, join(none, proof[32:]), join(proof[:32], none), join(none, none))
	}
	for i, each := range bad {
		if sigma.VerifySame(a, base, b, each) {
			t.Errorf("Q4: %d: %x", i, each)
		}
	}
	wrong(t, "Q4: nothing at all", sigma.VerifySame(nil, nil, nil, nil))
	wrong(t, "Q4: nothing at all", sigma.VerifySame([]byte{}, []byte{}, []byte{}, []byte{}))
	wrong(t, "Q4: G alone", sigma.VerifySame(group.Base(), group.Base(), group.Base(), nil))
}
