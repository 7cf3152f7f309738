package sponge_test

import (
	"bytes"
	"crypto/sha3"
	"encoding/binary"
	"encoding/hex"
	"testing"
)

// lengths are those around nothing, and around whole pieces of 136 bytes.
func lengths() []int {
	var l []int
	for n := range 300 {
		l = append(l, n)
	}
	for pieces := 3; pieces <= 9; pieces++ {
		for n := pieces*136 - 9; n <= pieces*136+9; n++ {
			l = append(l, n)
		}
	}
	return append(l, 65535, 65536, 65537, 200000)
}

// some makes n bytes in which no short piece comes twice; other seeds make others.
func some(n int, seed byte) []byte {
	return sha3.SumSHAKE128([]byte{seed}, n)
}

func same(t *testing.T, what string, got, want []byte) {
	t.Helper()
	if !bytes.Equal(got, want) {
		t.Errorf("%s: %x, want %x", what, got, want)
	}
}

func begins(t *testing.T, what string, got []byte, want string) {
	t.Helper()
	if h := hex.EncodeToString(got); len(h) < len(want) || h[:len(want)] != want {
		t.Errorf("%s: %s, want a beginning of %s", what, h, want)
	}
}

// wantTag is S3, by the library's hash.
func wantTag(label string, parts ...[]byte) []byte {
	b := frame([]byte(label))
	for _, p := range parts {
		b = append(b, frame(p)...)
	}
	h := sha3.Sum256(b)
	return h[:]
}

func frame(b []byte) []byte {
	return append(binary.BigEndian.AppendUint32(nil, uint32(len(b))), b...)
}

// guarded puts bytes into the middle of others, so that whatever is written beside them or over them shows.
type guarded struct {
	all    []byte
	before []byte
	b      []byte
}

func guard(b []byte) guarded {
	const room = 300
	all := some(len(b)+2*room, 99)
	copy(all[room:], b)
	return guarded{all, bytes.Clone(all), all[room : room+len(b)]}
}

func (g guarded) check(t *testing.T, what string) {
	t.Helper()
	if !bytes.Equal(g.all, g.before) {
		t.Errorf("E2: %s: what was handed in, or what lies around it, has changed", what)
	}
}

// spoil writes over an answer and all of its spare room.
func spoil(b []byte) {
	b = b[:cap(b)]
	for i := range b {
		b[i] ^= 0xa5
	}
}
