package sponge_test

import (
	"bytes"
	"crypto/sha3"
	"math"
	"testing"

	"mintvault/api"
	"mintvault/sponge"
)

func stream(t *testing.T, b []byte, n int) []byte {
	t.Helper()
	out, e := sponge.Stream(b, n)
	if e != api.OK || len(out) != n {
		t.Fatalf("S2: Stream of %d: %d bytes, errno %d", n, len(out), e)
	}
	return out
}

func TestHashExamples(t *testing.T) {
	begins(t, "S2: Hash of nil", sponge.Hash(nil), "a7ffc6f8bf1ed766")
	begins(t, "S2: Hash of no bytes", sponge.Hash([]byte{}), "a7ffc6f8bf1ed766")
	begins(t, "S2: Hash of abc", sponge.Hash([]byte("abc")), "3a985da74fe225b2")
	begins(t, "S2: Stream of nil", stream(t, nil, 32), "46b9dd2b0ba88d13")
	begins(t, "S2: Stream of no bytes", stream(t, []byte{}, 32), "46b9dd2b0ba88d13")
}

func TestHashOfEveryLength(t *testing.T) {
	for _, n := range lengths() {
		b := some(n, byte(n))
		want := sha3.Sum256(b)
		same(t, "S2: Hash", sponge.Hash(b), want[:])
		same(t, "S2: Stream", stream(t, b, 300), sha3.SumSHAKE256(b, 300))
	}
}

// Bytes that look like an ending, or like what fills a piece, must count as any others do.
func TestHashOfBytesLikeEndings(t *testing.T) {
	for _, filler := range []byte{0x00, 0x06, 0x1f, 0x80, 0x86, 0x9f, 0xff} {
		for _, n := range []int{1, 2, 134, 135, 136, 137, 271, 272, 273} {
			b := bytes.Repeat([]byte{filler}, n)
			want := sha3.Sum256(b)
			same(t, "S2: Hash", sponge.Hash(b), want[:])
			same(t, "S2: Stream", stream(t, b, 136), sha3.SumSHAKE256(b, 136))
		}
	}
}

func TestStreamOfEveryLength(t *testing.T) {
	b := some(137, 3)
	for _, n := range append(lengths(), 1000, 1024, 16319, 16320, 16321, 16383, 16384) {
		if n <= 16384 {
			same(t, "S2: Stream", stream(t, b, n), sha3.SumSHAKE256(b, n))
		}
	}
}

func TestStreamTooLong(t *testing.T) {
	for _, b := range [][]byte{nil, []byte("abc"), some(300, 4)} {
		for _, n := range []int{-1, -136, 16385, 16386, 65536, math.MinInt, math.MinInt32, math.MaxInt32, math.MaxInt} {
			if out, e := sponge.Stream(b, n); len(out) != 0 || e != api.ErrLong {
				t.Errorf("S2: Stream of %d: %d bytes, errno %d", n, len(out), e)
			}
		}
	}
}

func TestHashMemory(t *testing.T) {
	for _, n := range []int{0, 1, 31, 32, 135, 136, 137, 300} {
		g := guard(some(n, 5))
		first := sponge.Hash(g.b)
		want := bytes.Clone(first)
		second := sponge.Hash(g.b)
		g.check(t, "Hash")
		spoil(first)
		g.check(t, "Hash, its answer written over")
		same(t, "E2: Hash: another answer", second, want)
		same(t, "E2: Hash: once more", sponge.Hash(g.b), want)
	}
}

func TestStreamMemory(t *testing.T) {
	for _, n := range []int{0, 1, 32, 135, 136, 137, 300} {
		g := guard(some(n, 6))
		first := stream(t, g.b, n)
		want := bytes.Clone(first)
		second := stream(t, g.b, n)
		g.check(t, "Stream")
		spoil(first)
		g.check(t, "Stream, its answer written over")
		same(t, "E2: Stream: another answer", second, want)
		same(t, "E2: Stream: once more", stream(t, g.b, n), want)
	}
}

func TestStreamHasNoMoreThanAskedFor(t *testing.T) {
	for _, n := range []int{0, 1, 135, 136, 137, 16384} {
		out := stream(t, []byte("abc"), n)
		if cap(out) != n {
			t.Errorf("Stream of %d: room for %d bytes", n, cap(out))
		}
	}
}
