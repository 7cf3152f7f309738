package sponge_test

import (
	"bytes"
	"crypto/sha3"
	"encoding/hex"
	"testing"

	"mintvault/api"
	"mintvault/sponge"
)

// ofNoughts is the state of 200 bytes 0, permuted, as the permutation's authors tell it.
const ofNoughts = "e7dde140798f25f18a47c033f9ccd584eea95aa61e2698d54d49806f304715bd" +
	"57d05362054e288bd46f8e7f2da497ffc44746a4a0e5fe90762e19d60cda5b8c" +
	"9c05191bf7a630ad64fc8fd0b75a933035d617233fa95aeb0321710d26e6a6a9" +
	"5f55cfdb167ca58126c84703cd31b8439f56a5111a2ff20161aed9215a63e505" +
	"f270c98cf2febe641166c47b95703661cb0ed04f555a7cb8c832cf1c8ae83e8c" +
	"14263aae22790c94e409c5a224f94118c26504e72635f5163ba1307fe944f675" +
	"49a2ec5c7bfff1ea"

func permuted(t *testing.T, b []byte) []byte {
	t.Helper()
	out, e := sponge.Permute(b)
	if e != api.OK || len(out) != 200 {
		t.Fatalf("S1: Permute: %d bytes, errno %d", len(out), e)
	}
	return out
}

func TestPermuteOfNoughts(t *testing.T) {
	want, err := hex.DecodeString(ofNoughts)
	if err != nil {
		t.Fatal(err)
	}
	same(t, "S1: of noughts", permuted(t, make([]byte, 200)), want)
}

// spongeOf makes a sponge out of Permute alone, of any rate: so the library's hashes tell whether states that are full of bits are permuted rightly.
func spongeOf(t *testing.T, b []byte, rate int, ending byte, n int) []byte {
	t.Helper()
	b = append(bytes.Clone(b), ending)
	for len(b)%rate != 0 {
		b = append(b, 0)
	}
	b[len(b)-1] ^= 0x80
	state := make([]byte, 200)
	for ; len(b) > 0; b = b[rate:] {
		for i := range rate {
			state[i] ^= b[i]
		}
		state = permuted(t, state)
	}
	out := bytes.Clone(state[:rate])
	for len(out) < n {
		state = permuted(t, state)
		out = append(out, state[:rate]...)
	}
	return out[:n]
}

func TestPermuteInOtherSponges(t *testing.T) {
	for n := range 450 {
		b := some(n, byte(n))
		same(t, "S1: a rate of 168", spongeOf(t, b, 168, 0x1f, 500), sha3.SumSHAKE128(b, 500))
		same(t, "S1: a rate of 136", spongeOf(t, b, 136, 0x1f, 500), sha3.SumSHAKE256(b, 500))
		want := sha3.Sum512(b)
		same(t, "S1: a rate of 72", spongeOf(t, b, 72, 0x06, 64), want[:])
	}
}

func TestPermuteAllBytesCount(t *testing.T) {
	state := some(200, 1)
	seen := map[string]int{string(permuted(t, state)): -1}
	for i := range state {
		other := bytes.Clone(state)
		other[i] ^= 1
		out := string(permuted(t, other))
		if j, twice := seen[out]; twice {
			t.Errorf("S1: changing byte %d answers the same as changing byte %d (-1: none)", i, j)
		}
		seen[out] = i
	}
}

func TestPermuteWrongLengths(t *testing.T) {
	if b, e := sponge.Permute(nil); len(b) != 0 || e != api.ErrForm {
		t.Errorf("S1: of nil: %x, errno %d", b, e)
	}
	for _, n := range []int{0, 1, 8, 136, 192, 199, 201, 208, 400, 100000} {
		if b, e := sponge.Permute(make([]byte, n)); len(b) != 0 || e != api.ErrForm {
			t.Errorf("S1: of %d bytes: %x, errno %d", n, b, e)
		}
	}
	if b, e := sponge.Permute(make([]byte, 199, 400)); len(b) != 0 || e != api.ErrForm {
		t.Errorf("S1: of 199 bytes with spare room: %x, errno %d", b, e)
	}
}

func TestPermuteMemory(t *testing.T) {
	g := guard(some(200, 2))
	first := permuted(t, g.b)
	want := bytes.Clone(first)
	second := permuted(t, g.b)
	g.check(t, "Permute")
	spoil(first)
	g.check(t, "Permute, its answer written over")
	same(t, "E2: Permute: another answer", second, want)
	same(t, "E2: Permute: once more", permuted(t, g.b), want)
}
