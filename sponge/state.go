package sponge

import "math/bits"

const (
	rounds     = 24
	wordBytes  = 8
	stateBytes = 25 * wordBytes
)

// state is 25 words; word (x, y) has the number x + 5 y.
type state [25]uint64

// permute runs the register of the rounds' constants on from round to round: each round needs the seven bits behind those of the one ahead.
func (s *state) permute() {
	constant, register := uint64(0), 1
	for range rounds {
		s.mixColumns()
		s.turnAndMove()
		s.mixRows()
		constant, register = roundConstant(register)
		s[0] ^= constant
	}
}

func (s *state) mixColumns() {
	var sums [5]uint64
	for x := range sums {
		sums[x] = s[x] ^ s[x+5] ^ s[x+10] ^ s[x+15] ^ s[x+20]
	}
	for x := range sums {
		d := sums[(x+4)%5] ^ bits.RotateLeft64(sums[(x+1)%5], 1)
		for i := x; i < len(s); i += 5 {
			s[i] ^= d
		}
	}
}

// turnAndMove does two steps at once, because the places whose offsets are told one behind the other are also those to which the words go: each word pushes out the next one. Word (0, 0) stays as it is.
func (s *state) turnAndMove() {
	x, y := 1, 0
	moving := s[x]
	for t := range 24 {
		turned := bits.RotateLeft64(moving, (t+1)*(t+2)/2%64)
		x, y = y, (2*x+3*y)%5
		moving, s[x+5*y] = s[x+5*y], turned
	}
}

func (s *state) mixRows() {
	for i := 0; i < len(s); i += 5 {
		a, b, c, d, e := s[i], s[i+1], s[i+2], s[i+3], s[i+4]
		s[i] ^= ^b & c
		s[i+1] ^= ^c & d
		s[i+2] ^= ^d & e
		s[i+3] ^= ^e & a
		s[i+4] ^= ^a & b
	}
}

// roundConstant answers, beside a round's constant, the register as the next round needs it.
func roundConstant(register int) (constant uint64, next int) {
	for j := range 7 {
		place := 1<<j - 1
		constant |= uint64(register&1) << place
		register *= 2
		if register > 255 {
			register ^= 0x171
		}
	}
	return constant, register
}

// mix takes bytes that fill whole words, the lowest byte of each first.
func (s *state) mix(b []byte) {
	for i := range len(b) / wordBytes {
		s[i] ^= word(b[i*wordBytes:])
	}
}

func word(b []byte) uint64 {
	w := uint64(0)
	for i := range wordBytes {
		w |= uint64(b[i]) << (8 * i)
	}
	return w
}

func (s *state) front(n int) []byte {
	b := make([]byte, n)
	for i := range b {
		b[i] = byte(s[i/wordBytes] >> (8 * (i % wordBytes)))
	}
	return b
}
