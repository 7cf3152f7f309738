package wire

import (
	"bytes"

	"mintvault/api"
)

// From here on the five lowest bits of a head do not tell its number, but in how many bytes it follows.
const inMoreBytes = 24

// walk is what reading and writing an item have in common.
type walk struct {
	kinds map[int]kind
	depth int
	items int
}

// enter is at each item; that it counts as it goes also ends a walk through a list that holds itself.
func (w *walk) enter(which int) kind {
	w.depth++
	w.items++
	k, known := w.kinds[which]
	must(known && w.depth <= api.MaxDepth && w.items <= api.MaxItems)
	return k
}

func (w *walk) leave() { w.depth-- }

// headOf is the only head of that kind and number.
func headOf(which int, n uint64) []byte {
	first := byte(which << 5)
	if n < inMoreBytes {
		return []byte{first | byte(n)}
	}
	size, low := 1, byte(inMoreBytes)
	for size < 8 && n>>(8*size) > 0 {
		size, low = 2*size, low+1
	}
	head := []byte{first | low}
	for size > 0 {
		size--
		head = append(head, byte(n>>(8*size)))
	}
	return head
}

// rise is the key; no key is empty, so the first one is above none.
func rise(last, key []byte) []byte {
	must(bytes.Compare(last, key) < 0)
	return key
}
