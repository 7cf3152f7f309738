// Package residue reckons modulo the two primes of the program, with numbers as arrays: the ground of num and of the curve, which go through bytes only at their edges.
package residue

const (
	wordBytes   = 8
	wordBits    = 64
	numberBytes = 32
	numberBits  = 256
)

// Number is one below 2^256, its lowest word first. A prime's numbers are those below it: each has one array alone, so that == tells whether two are the same.
type Number [4]uint64

// Odd tells whether the number is odd.
func (n Number) Odd() bool { return n[0]&1 == 1 }

// Bits are count ones of the number, the first of which has the value 2^from: 0 beyond the last one.
func (n Number) Bits(from, count int) int {
	bits := 0
	for i := min(from+count, numberBits) - 1; i >= from; i-- {
		bits = bits<<1 | int(n[i/wordBits]>>(i%wordBits)&1)
	}
	return bits
}

// Bytes are the 32 of the number, the highest first, in new memory.
func (n Number) Bytes() []byte {
	b := make([]byte, numberBytes)
	for i, x := range n {
		putWord(b[numberBytes-wordBytes*(i+1):], x)
	}
	return b
}

// fromBytes takes at most 32 bytes, the highest first.
func fromBytes(b []byte) Number {
	var whole [numberBytes]byte
	copy(whole[numberBytes-len(b):], b)
	var n Number
	for i := range n {
		n[i] = word(whole[numberBytes-wordBytes*(i+1):])
	}
	return n
}

// quarter is a fourth of the number, without what is left over.
func (n Number) quarter() Number {
	return Number{n[0]>>2 | n[1]<<62, n[1]>>2 | n[2]<<62, n[2]>>2 | n[3]<<62, n[3] >> 2}
}

// word and putWord are written out, because the compiler makes one step of them then.
func word(b []byte) uint64 {
	b = b[:wordBytes]
	return uint64(b[7]) | uint64(b[6])<<8 | uint64(b[5])<<16 | uint64(b[4])<<24 |
		uint64(b[3])<<32 | uint64(b[2])<<40 | uint64(b[1])<<48 | uint64(b[0])<<56
}

func putWord(b []byte, x uint64) {
	b = b[:wordBytes]
	b[0], b[1], b[2], b[3] = byte(x>>56), byte(x>>48), byte(x>>40), byte(x>>32)
	b[4], b[5], b[6], b[7] = byte(x>>24), byte(x>>16), byte(x>>8), byte(x)
}
