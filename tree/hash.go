package tree

import (
	"math/bits"

	"mintvault/sponge"
)

const hashBytes = 32

func leafHash(b []byte) []byte { return sponge.Tag("leaf", [][]byte{b}) }

func node(x, y []byte) []byte { return sponge.Tag("node", [][]byte{x, y}) }

// firstHalf is the greatest power of two below n, which is 2 or more: a first half that is full stays as it is, however the list grows.
func firstHalf(n int) int { return 1 << (bits.Len(uint(n-1)) - 1) }

func halves(leaves [][]byte) (first, others [][]byte) {
	k := firstHalf(len(leaves))
	return leaves[:k], leaves[k:]
}

func root(leaves [][]byte) []byte {
	switch len(leaves) {
	case 0:
		return sponge.Tag("none", nil)
	case 1:
		return leafHash(leaves[0])
	}
	first, others := halves(leaves)
	return node(root(first), root(others))
}

func allHashes(l [][]byte) bool {
	for _, b := range l {
		if len(b) != hashBytes {
			return false
		}
	}
	return true
}

// last splits off the entry of the topmost node, where there is one.
func last(l [][]byte) (others [][]byte, e []byte, ok bool) {
	if len(l) == 0 {
		return nil, nil, false
	}
	return l[:len(l)-1], l[len(l)-1], true
}
