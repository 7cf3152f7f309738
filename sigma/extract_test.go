package sigma_test

import (
	"bytes"
	"math/big"
	"testing"

	"mintvault/api"
	"mintvault/sigma"
)

func TestExtract(t *testing.T) {
	all := []*big.Int{count(0), count(1), count(2), less(order(), count(1)), less(order(), count(2)), power(255), ordinary("a"), ordinary("b")}
	for _, c1 := range all {
		for _, c2 := range all {
			for _, z1 := range all {
				for _, z2 := range all {
					got, errno := sigma.Extract(of(c1), of(z1), of(c2), of(z2))
					if c1.Cmp(c2) == 0 {
						fails(t, "Q6: the same challenge", got, errno, api.ErrNone)
						continue
					}
					under := new(big.Int).Mod(less(c1, c2), order())
					want := mul(less(z1, z2), under.ModInverse(under, order()))
					is(t, "Q6: Extract", got, errno, of(want))
				}
			}
		}
	}
}

func TestExtractOfNone(t *testing.T) {
	one, two := of(count(1)), of(count(2))
	for _, none := range noScalars() {
		for _, right := range [][][]byte{{one, two, two, one}, {one, two, one, two}, {one, two, one, one}, {two, two, two, two}} {
			for place := range 4 {
				s := append([][]byte{}, right...)
				s[place] = none
				got, errno := sigma.Extract(s[0], s[1], s[2], s[3])
				fails(t, "Q6: one is none", got, errno, api.ErrScalar)
			}
		}
		got, errno := sigma.Extract(none, one, none, two)
		fails(t, "Q6: both challenges are the same, and none", got, errno, api.ErrScalar)
		got, errno = sigma.Extract(none, none, none, none)
		fails(t, "Q6: all are none", got, errno, api.ErrScalar)
	}
	got, errno := sigma.Extract(of(count(0)), one, whole(order()), two)
	fails(t, "Q6: 0 and Order", got, errno, api.ErrScalar)
}

// Who signs two texts with one nonce has told the secret.
func TestExtractOfTwoAnswers(t *testing.T) {
	for _, x := range secrets() {
		for _, k := range append(secrets(), count(0)) {
			p, first := public(x), public(k)
			c1, c2 := signChallenge(p, first, []byte("a")), signChallenge(p, first, []byte("b"))
			s1, s2 := signedWith(k, x, []byte("a")), signedWith(k, x, []byte("b"))
			holds(t, "Q6: the first answer", sigma.Verify(p, []byte("a"), s1))
			holds(t, "Q6: the second answer", sigma.Verify(p, []byte("b"), s2))
			got, errno := sigma.Extract(of(c1), s1[33:], of(c2), s2[33:])
			is(t, "Q6: the secret", got, errno, of(x))
			if !bytes.Equal(times(number(got), public(count(1))), p) {
				t.Error("Q6: the secret times G is not the public")
			}
		}
	}
}
