package store

import (
	"bytes"
	"iter"
	"slices"

	"mintvault/sponge"
)

const (
	headSize  = 4
	checkSize = 8
	around    = headSize + checkSize // a frame's bytes beside its record
)

// framed is the frame of the record with that number.
func framed(number int, record []byte) []byte {
	check := sponge.Tag("frame", [][]byte{numeral(8, number), record})[:checkSize]
	return slices.Concat(numeral(headSize, len(record)), record, check)
}

// numeral is a number in so many bytes.
func numeral(size, n int) []byte {
	b := make([]byte, size)
	for i := range b {
		b[size-1-i] = byte(n >> (8 * i))
	}
	return b
}

// frames are those at the beginning of bytes, up to the first one that is not whole and right.
func frames(b []byte) iter.Seq[[]byte] {
	return func(yield func([]byte) bool) {
		rest := b
		for number := 0; ; number++ {
			f, ok := first(rest, number)
			if !ok || !yield(f) {
				return
			}
			rest = rest[len(f):]
		}
	}
}

// first is the frame with that number, if bytes begin with it.
func first(b []byte, number int) ([]byte, bool) {
	record, ok := claimed(b)
	if !ok {
		return nil, false
	}
	f := framed(number, record)
	return f, bytes.HasPrefix(b, f)
}

// claimed is the record that bytes begin with, if they begin with a frame.
func claimed(b []byte) ([]byte, bool) {
	if len(b) < headSize {
		return nil, false
	}
	head, rest := b[:headSize], b[headSize:]
	n := uint32(head[0])<<24 | uint32(head[1])<<16 | uint32(head[2])<<8 | uint32(head[3])
	if n > maxRecord || int(n) > len(rest) {
		return nil, false
	}
	return rest[:n], true
}
