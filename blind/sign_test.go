package blind_test

import (
	"bytes"
	"crypto/sha3"
	"math/big"
	"slices"
	"testing"

	"mintvault/api"
	"mintvault/blind"
	"mintvault/sigma"
)

func TestSign(t *testing.T) {
	for _, key := range keys() {
		for _, hidden := range append(points(), hiddenBy(ordinary("r"), []byte("a"))) {
			signed, proof, errno := blind.Sign(of(key), hidden)
			is(t, "L2: Sign", signed, errno, times(key, hidden))
			is(t, "L2: Sign's proof", proof, errno, ok(sigma.ProveSame(of(key), hidden)))
			holds(t, "L2: what Sign made", blind.Right(public(key), hidden, signed, proof))
		}
	}
}

func TestSignOfNone(t *testing.T) {
	for _, hidden := range nothingOrNoPoints() {
		for _, key := range keys() {
			signed, proof, errno := blind.Sign(of(key), hidden)
			fails(t, "L2: a hidden that is none", slices.Concat(signed, proof), errno, api.ErrPoint)
		}
	}
}

func TestSignByNone(t *testing.T) {
	for _, key := range noKeys() {
		for _, hidden := range append(nothingOrNoPoints(), points()...) {
			signed, proof, errno := blind.Sign(key, hidden)
			fails(t, "L2: a key that is none", slices.Concat(signed, proof), errno, api.ErrScalar)
		}
	}
}

// handed is what Right is handed: public, hidden, signed, proof.
type handed [4][]byte

func made() handed {
	key, hidden := ordinary("key"), hiddenBy(ordinary("r"), []byte("a"))
	signed, proof, _ := blind.Sign(of(key), hidden)
	return handed{public(key), hidden, signed, proof}
}

func (h handed) right() bool { return blind.Right(h[0], h[1], h[2], h[3]) }

// with is a copy: an array is handed on as a value.
func (h handed) with(i int, b []byte) handed {
	h[i] = b
	return h
}

func TestRightOfEveryBit(t *testing.T) {
	h := made()
	holds(t, "L2: Right", h.right())
	for place, b := range h {
		for bit, other := range flips(b) {
			if h.with(place, other).right() {
				t.Errorf("L2: bit %d of place %d is another", bit, place)
			}
		}
	}
}

func TestRightOfExchanged(t *testing.T) {
	h := made()
	for i := range h {
		for j := range i {
			wrong(t, "L2: two exchanged", h.with(i, h[j]).with(j, h[i]).right())
			wrong(t, "L2: one for two", h.with(i, h[j]).right())
			wrong(t, "L2: one for two", h.with(j, h[i]).right())
		}
	}
	wrong(t, "L2: the proof's halves exchanged", h.with(3, slices.Concat(h[3][32:], h[3][:32])).right())
}

func TestRightOfOtherLengths(t *testing.T) {
	h := made()
	for i, b := range h {
		for _, other := range misfits(b) {
			wrong(t, "L2: another length", h.with(i, other).right())
		}
	}
	wrong(t, "L2: none of the four", handed{}.right())
	wrong(t, "L2: none of the four", handed{{}, {}, {}, {}}.right())
}

func TestRightOfNoPoints(t *testing.T) {
	h := made()
	for i := range 3 {
		for _, none := range nothingOrNoPoints() {
			wrong(t, "L2: no point, or nothing", h.with(i, none).right())
		}
		for _, other := range points() {
			wrong(t, "L2: another point", h.with(i, other).right())
		}
	}
}

func TestRightOfNoProofs(t *testing.T) {
	h := made()
	for _, none := range noScalars() {
		wrong(t, "L2: no scalar ahead", h.with(3, slices.Concat(none, h[3][32:])).right())
		wrong(t, "L2: no scalar behind", h.with(3, slices.Concat(h[3][:32], none)).right())
	}
	wrong(t, "L2: a proof of 0", h.with(3, make([]byte, 64)).right())
	wrong(t, "L2: a proof of 255", h.with(3, bytes.Repeat([]byte{255}, 64)).right())
}

// What another key signed, and what another key would have to prove.
func TestRightOfAnotherKey(t *testing.T) {
	h, other := made(), ordinary("other key")
	signed, proof, _ := blind.Sign(of(other), h[1])
	wrong(t, "L2: signed and proved by another key", h.with(2, signed).with(3, proof).right())
	wrong(t, "L2: signed by another key", h.with(2, signed).right())
	wrong(t, "L2: proved by another key", h.with(3, proof).right())
	_, proof, _ = blind.Sign(of(ordinary("key")), tokenPoint([]byte("b")))
	wrong(t, "L2: the proof of what was signed ahead", h.with(3, proof).right())
}

// tag is S3's, by the library's hash.
func tag(label string, parts ...[]byte) []byte {
	h := sha3.New256()
	for _, part := range append([][]byte{[]byte(label)}, parts...) {
		h.Write(whole(count(int64(len(part))))[28:])
		h.Write(part)
	}
	return h.Sum(nil)
}

// proofWith is Q4's, with a nonce of one's own; the key may be 0, and what is hidden nothing.
func proofWith(k, key *big.Int, hidden []byte) []byte {
	state := tag("log", []byte("same"))
	say := func(label string, b []byte) { state = tag("say", state, []byte(label), b) }
	say("base", hidden)
	say("a", public(key))
	say("b", times(key, hidden))
	say("first", public(k))
	say("second", times(k, hidden))
	c := number(of(number(sha3.SumSHAKE256(tag("ask", state, []byte("challenge")), 64))))
	return slices.Concat(of(c), of(add(k, mul(c, key))))
}

// In each of these the proof's equations hold, but for what is nothing.
func TestRightOfNothing(t *testing.T) {
	h, k, key := made(), ordinary("k"), ordinary("key")
	holds(t, "L2: another nonce", h.with(3, proofWith(k, key, h[1])).right())
	wrong(t, "L2: a key of 0", handed{nothing(), h[1], nothing(), proofWith(k, count(0), h[1])}.right())
	wrong(t, "L2: nothing is hidden", handed{h[0], nothing(), nothing(), proofWith(k, key, nothing())}.right())
	wrong(t, "L2: all nothing", handed{nothing(), nothing(), nothing(), proofWith(k, count(0), nothing())}.right())
}
