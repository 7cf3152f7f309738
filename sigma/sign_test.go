package sigma_test

import (
	"encoding/hex"
	"math/big"
	"testing"

	"mintvault/api"
	"mintvault/group"
	"mintvault/sigma"
)

func signChallenge(public, first, text []byte) *big.Int {
	return challenge("sign", []byte("public"), public, []byte("first"), first, []byte("text"), text)
}

// signedWith is the signature with this nonce.
func signedWith(k, x *big.Int, text []byte) []byte {
	first := public(k)
	return join(first, answer(k, signChallenge(public(x), first, text), x))
}

func signed(x *big.Int, text []byte) []byte {
	return signedWith(chance("nonce sign", of(x), text), x, text)
}

func TestSign(t *testing.T) {
	for _, x := range secrets() {
		for _, text := range texts() {
			got, errno := sigma.Sign(of(x), text)
			is(t, "Q1: Sign", got, errno, signed(x, text))
			holds(t, "Q2: a right signature", sigma.Verify(public(x), text, got))
		}
	}
}

func TestSignExample(t *testing.T) {
	want, _ := hex.DecodeString("03cd90862f70ae429d607179b88c0344cba3a6273d10df9eee52decdaf0cb3f57886711c037cadf5569f5bbc5bbc743346d2b4a2b81ffc31ade4c74e63f142c489")
	got, errno := sigma.Sign(of(count(1)), []byte("abc"))
	is(t, "Q1: Sign of abc with the secret 1", got, errno, want)
}

func TestSignWithNoSecret(t *testing.T) {
	for _, secret := range append(noScalars(), make([]byte, 32)) {
		for _, text := range texts() {
			got, errno := sigma.Sign(secret, text)
			fails(t, "Q1: Sign", got, errno, api.ErrScalar)
		}
	}
}

func TestVerifyTellsEmptyTextsAlike(t *testing.T) {
	x := ordinary("x")
	for _, text := range [][]byte{nil, {}} {
		s, _ := sigma.Sign(of(x), text)
		holds(t, "Q2: nil", sigma.Verify(public(x), nil, s))
		holds(t, "Q2: empty", sigma.Verify(public(x), []byte{}, s))
		wrong(t, "Q2: one byte 0", sigma.Verify(public(x), []byte{0}, s))
	}
}

// Whatever the nonce was, the signature is right: also where it is 0, and the first message nothing.
func TestVerifyOfAnyNonce(t *testing.T) {
	for _, k := range append(secrets(), count(0)) {
		for _, x := range secrets() {
			holds(t, "Q2: another nonce", sigma.Verify(public(x), []byte("abc"), signedWith(k, x, []byte("abc"))))
		}
	}
}

func TestVerifyOfEveryBit(t *testing.T) {
	x, text := ordinary("x"), []byte("some text")
	p, s := public(x), signed(x, text)
	for i, bad := range flips(s) {
		if sigma.Verify(p, text, bad) {
			t.Errorf("Q2: bit %d of the signature is another", i)
		}
	}
	for i, bad := range flips(text) {
		if sigma.Verify(p, bad, s) {
			t.Errorf("Q2: bit %d of the text is another", i)
		}
	}
	for i, bad := range flips(p) {
		if sigma.Verify(bad, text, s) {
			t.Errorf("Q2: bit %d of the public is another", i)
		}
	}
}

func TestVerifyOfAnother(t *testing.T) {
	x, text := ordinary("x"), []byte("abc")
	p, s := public(x), signed(x, text)
	for _, other := range texts() {
		if string(other) != "abc" {
			wrong(t, "Q2: another text", sigma.Verify(p, other, s))
		}
	}
	for _, other := range points() {
		wrong(t, "Q2: another public", sigma.Verify(other, text, s))
		wrong(t, "Q2: another R", sigma.Verify(p, text, with(s, 0, other)))
	}
	wrong(t, "Q2: the opposite public", sigma.Verify(opposite(p), text, s))
	wrong(t, "Q2: the opposite R", sigma.Verify(p, text, with(s, 0, opposite(s[:33]))))
	wrong(t, "Q2: the opposite z", sigma.Verify(p, text, with(s, 33, of(less(count(0), number(s[33:]))))))
	wrong(t, "Q2: another z", sigma.Verify(p, text, with(s, 33, of(add(number(s[33:]), count(1))))))
	wrong(t, "Q2: z is 0", sigma.Verify(p, text, with(s, 33, of(count(0)))))
	wrong(t, "Q2: all opposite", sigma.Verify(opposite(p), text, join(opposite(s[:33]), of(less(count(0), number(s[33:]))))))
}

// With a public that is nothing, the equation holds for any z whose R is z G.
func TestVerifyOfNoPublic(t *testing.T) {
	x, text := ordinary("x"), []byte("abc")
	s := signed(x, text)
	for _, p := range append(noPoints(), nothing()) {
		wrong(t, "Q2: a public that is none", sigma.Verify(p, text, s))
		wrong(t, "Q2: a public that is none, R is z G", sigma.Verify(p, text, join(public(x), of(x))))
		wrong(t, "Q2: a public that is none, nothing and 0", sigma.Verify(p, text, make([]byte, 65)))
	}
	p := public(x)
	wrong(t, "Q2: 32 bytes of the public", sigma.Verify(p[:32], text, s))
	wrong(t, "Q2: 34 bytes of the public", sigma.Verify(append(p, 0), text, s))
}

// badSignatures are made of a right one, and none themselves.
func badSignatures(s []byte) [][]byte {
	all := [][]byte{nil, {}, s[:1], s[:33], s[:64], s[1:], s[33:], append(s[:65:65], 0), append([]byte{0}, s...), join(s, s), make([]byte, 65), with(s, 0, nothing())}
	for _, a := range noPoints() {
		all = append(all, join(a, s[33:]))
	}
	for _, z := range noScalars() {
		all = append(all, join(s[:33], z))
	}
	return all
}

func TestVerifyOfNoSignature(t *testing.T) {
	x, text := ordinary("x"), []byte("abc")
	for i, bad := range badSignatures(signed(x, text)) {
		if sigma.Verify(public(x), text, bad) {
			t.Errorf("Q2: %d: %x", i, bad)
		}
	}
	wrong(t, "Q2: nothing at all", sigma.Verify(nil, nil, nil))
	wrong(t, "Q2: nothing at all", sigma.Verify([]byte{}, []byte{}, []byte{}))
	wrong(t, "Q2: a base alone", sigma.Verify(group.Base(), nil, nil))
}
