// Package sponge: a permutation, and what is hashed with it: see doc/01-sponge.md.
package sponge

import "mintvault/api"

const (
	rate      = 136
	hashBytes = 32
	maxStream = 16384

	hashEnding   = 0x06
	streamEnding = 0x1f
)

// sponge takes bytes, is ended, and then gives bytes.
type sponge struct {
	state
	piece [rate]byte // what waits till it is whole
	held  int        // how much of it does
}

func (s *sponge) take(b []byte) {
	for len(b) > 0 {
		n := copy(s.piece[s.held:], b)
		b = b[n:]
		s.held += n
		if s.held == rate {
			s.soak()
		}
	}
}

func (s *sponge) takeFrame(b []byte) {
	n := len(b)
	s.take([]byte{byte(n >> 24), byte(n >> 16), byte(n >> 8), byte(n)})
	s.take(b)
}

// end finds room for the ending always: a piece that is whole is never held.
func (s *sponge) end(ending byte) {
	clear(s.piece[s.held:])
	s.piece[s.held] = ending
	s.piece[rate-1] ^= 0x80
	s.soak()
}

func (s *sponge) soak() {
	s.mix(s.piece[:])
	s.permute()
	s.held = 0
}

// give cuts off what comes out behind n bytes, spare room included: whoever goes on from the answer must not find what was not asked for.
func (s *sponge) give(n int) []byte {
	out := make([]byte, 0, n+rate)
	for len(out) < n {
		if len(out) > 0 {
			s.permute()
		}
		out = append(out, s.front(rate)...)
	}
	return out[:n:n]
}

// Permute turns a state of 200 bytes.
func Permute(b []byte) ([]byte, api.Errno) {
	if len(b) != stateBytes {
		return nil, api.ErrForm
	}
	var s state
	s.mix(b)
	s.permute()
	return s.front(stateBytes), api.OK
}

// Hash is the hash of bytes.
func Hash(b []byte) []byte {
	var s sponge
	s.take(b)
	s.end(hashEnding)
	return s.front(hashBytes)
}

// Stream is n bytes out of bytes.
func Stream(b []byte, n int) ([]byte, api.Errno) {
	if n < 0 || n > maxStream {
		return nil, api.ErrLong
	}
	var s sponge
	s.take(b)
	s.end(streamEnding)
	return s.give(n), api.OK
}

// Tag is the hash of a label and of parts.
func Tag(label string, parts [][]byte) []byte {
	var s sponge
	s.takeFrame([]byte(label))
	for _, part := range parts {
		s.takeFrame(part)
	}
	s.end(hashEnding)
	return s.front(hashBytes)
}
