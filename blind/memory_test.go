package blind_test

import (
	"bytes"
	"testing"

	"mintvault/api"
	"mintvault/blind"
)

// guarded puts bytes into the middle of others, so that whatever is written beside them or over them shows.
type guarded struct {
	all    []byte
	before []byte
	b      []byte
}

func guard(b []byte) guarded {
	const room = 100
	all := some(len(b)+2*room, "around")
	copy(all[room:], b)
	return guarded{all, bytes.Clone(all), all[room : room+len(b)]}
}

func (g guarded) check(t *testing.T, what string) {
	t.Helper()
	if !bytes.Equal(g.all, g.before) {
		t.Errorf("E2: %s: what was handed in, or what lies around it, has changed", what)
	}
}

// spoil writes over an answer and all of its spare room.
func spoil(b []byte) {
	b = b[:cap(b)]
	for i := range b {
		b[i] ^= 0xa5
	}
}

// answersApart asks again and again: an answer that is written over must show neither in what was handed in nor in another answer, and what was handed in may change behind the answer.
func answersApart(t *testing.T, what string, ask func() ([]byte, api.Errno), given ...guarded) {
	t.Helper()
	first, errno := ask()
	want := bytes.Clone(first)
	if errno != api.OK {
		t.Errorf("E2: %s: %d", what, errno)
	}
	second, _ := ask()
	spoil(first)
	for _, g := range given {
		g.check(t, what)
	}
	third, _ := ask()
	for _, g := range given {
		spoil(g.b)
	}
	if !bytes.Equal(second, want) || !bytes.Equal(third, want) {
		t.Errorf("E2: %s: answers share memory", what)
	}
}

func TestMemory(t *testing.T) {
	for _, n := range scalars() {
		for _, secret := range few() {
			s, r := guard(secret), guard(of(n))
			answersApart(t, "Lift", func() ([]byte, api.Errno) { return blind.Lift(s.b) }, s)
			s = guard(secret)
			answersApart(t, "Blind", func() ([]byte, api.Errno) { return blind.Blind(s.b, r.b) }, s, r)
		}
		signed, r, known := guard(public(count(5))), guard(of(n)), guard(nothing())
		answersApart(t, "Unblind", func() ([]byte, api.Errno) { return blind.Unblind(signed.b, r.b, known.b) }, signed, r, known)
		both, r := guard(public(count(5))), guard(of(n))
		answersApart(t, "Unblind of the same twice", func() ([]byte, api.Errno) { return blind.Unblind(both.b, r.b, both.b) }, both, r)
	}
}

func TestMemoryOfSign(t *testing.T) {
	for _, n := range keys() {
		key, hidden := guard(of(n)), guard(tokenPoint([]byte("a")))
		answersApart(t, "Sign", func() ([]byte, api.Errno) {
			signed, _, errno := blind.Sign(key.b, hidden.b)
			return signed, errno
		}, key, hidden)
		key, hidden = guard(of(n)), guard(tokenPoint([]byte("a")))
		answersApart(t, "Sign's proof", func() ([]byte, api.Errno) {
			_, proof, errno := blind.Sign(key.b, hidden.b)
			return proof, errno
		}, key, hidden)
	}
}

func TestSignsAnswersShareNothing(t *testing.T) {
	key, hidden := of(ordinary("key")), tokenPoint([]byte("a"))
	signed, proof, _ := blind.Sign(key, hidden)
	spoil(signed)
	again, want, _ := blind.Sign(key, hidden)
	if !bytes.Equal(proof, want) {
		t.Error("E2: Sign: writing over what is signed shows in the proof")
	}
	signed, proof, _ = blind.Sign(key, hidden)
	spoil(proof)
	if !bytes.Equal(signed, again) {
		t.Error("E2: Sign: writing over the proof shows in what is signed")
	}
}

func TestMemoryOfWhoLooks(t *testing.T) {
	h := made()
	for _, b := range append(flips(h[3])[:8], h[3], nil) {
		known, hidden, signed, proof := guard(h[0]), guard(h[1]), guard(h[2]), guard(b)
		blind.Right(known.b, hidden.b, signed.b, proof.b)
		for _, g := range []guarded{known, hidden, signed, proof} {
			g.check(t, "Right")
		}
	}
	for _, n := range scalars() {
		key, secret, signature := guard(of(n)), guard([]byte("a")), guard(times(n, tokenPoint([]byte("a"))))
		blind.Valid(key.b, secret.b, signature.b)
		for _, g := range []guarded{key, secret, signature} {
			g.check(t, "Valid")
		}
	}
}

// The errors, too, only read what they are handed.
func TestMemoryOfErrors(t *testing.T) {
	for _, none := range [][]byte{nil, make([]byte, 31), make([]byte, 65), whole(order()), some(33, "none")} {
		g := guard(none)
		blind.Lift(g.b)
		blind.Blind([]byte("a"), g.b)
		blind.Blind(g.b, of(count(1)))
		blind.Sign(g.b, public(count(1)))
		blind.Sign(of(count(1)), g.b)
		blind.Unblind(g.b, of(count(1)), public(count(1)))
		blind.Unblind(public(count(1)), g.b, public(count(1)))
		blind.Unblind(public(count(1)), of(count(1)), g.b)
		g.check(t, "an error")
	}
}
