package tree_test

import (
	"bytes"
	"crypto/sha3"
	"encoding/binary"
	"slices"
	"strconv"
	"testing"

	"mintvault/api"
)

const most = 1 << 20

// some makes n bytes; other seeds make others.
func some(n int, seed string) []byte { return sha3.SumSHAKE128([]byte(seed), n) }

// tag is Tag by the library's hash.
func tag(label string, parts ...[]byte) []byte {
	h := sha3.New256()
	for _, part := range append([][]byte{[]byte(label)}, parts...) {
		h.Write(binary.BigEndian.AppendUint32(nil, uint32(len(part))))
		h.Write(part)
	}
	return h.Sum(nil)
}

func leafHash(b []byte) []byte { return tag("leaf", b) }
func node(x, y []byte) []byte  { return tag("node", x, y) }

// others are n leaves of which no two are the same.
func others(n int) [][]byte {
	var l [][]byte
	for i := range n {
		l = append(l, append([]byte(strconv.Itoa(i)), make([]byte, i%7)...))
	}
	return l
}

// same are n times the same leaf.
func same(n int, leaf []byte) [][]byte {
	var l [][]byte
	for range n {
		l = append(l, leaf)
	}
	return l
}

// lists are all sorts of n leaves.
func lists(n int) [][][]byte {
	mixed := others(n)
	for i := range mixed {
		mixed[i] = some(i*i%300, "leaf"+strconv.Itoa(i%3))
	}
	return [][][]byte{others(n), same(n, nil), same(n, []byte{}), same(n, []byte("a")), same(n, make([]byte, 32)), mixed}
}

// levels are the tree from below, as it is built without halving: pairs become nodes, one that is left over goes up as it is.
func levels(leaves [][]byte) [][][]byte {
	var level [][]byte
	for _, b := range leaves {
		level = append(level, leafHash(b))
	}
	all := [][][]byte{level}
	for len(level) > 1 {
		var next [][]byte
		for pair := range slices.Chunk(level, 2) {
			if len(pair) == 1 {
				next = append(next, pair[0])
			} else {
				next = append(next, node(pair[0], pair[1]))
			}
		}
		all, level = append(all, next), next
	}
	return all
}

func rootOf(leaves [][]byte) []byte {
	if len(leaves) == 0 {
		return tag("none")
	}
	all := levels(leaves)
	return all[len(all)-1][0]
}

// besides are what lies beside the node at each level, from a level up, where something does.
func besides(all [][][]byte, from, at int) [][]byte {
	var l [][]byte
	for _, level := range all[from:] {
		if beside := at ^ 1; beside < len(level) {
			l = append(l, level[beside])
		}
		at /= 2
	}
	return l
}

func pathOf(leaves [][]byte, i int) [][]byte { return besides(levels(leaves), 0, i) }

// whole goes up from leaf m - 1 as long as what ends there is a node of its own: to this level, and this place on it.
func whole(m int) (level, at int) {
	for at = m - 1; at%2 == 1; at /= 2 {
		level++
	}
	return level, at
}

func growthOf(leaves [][]byte, m int) [][]byte {
	if m == len(leaves) {
		return nil
	}
	all := levels(leaves)
	level, at := whole(m)
	if at == 0 {
		return besides(all, level, 0)
	}
	return append([][]byte{all[level][at]}, besides(all, level, at)...)
}

// follow is what a path leads to, from below; all of its entries are needed, and no more.
func follow(n, i int, leaf []byte, path [][]byte) []byte {
	h := leafHash(leaf)
	for ; n > 1; n, i = (n+1)/2, i/2 {
		switch {
		case i%2 == 1:
			h, path = node(path[0], h), path[1:]
		case i+1 < n:
			h, path = node(h, path[0]), path[1:]
		}
	}
	if len(path) > 0 {
		panic("the path is too long")
	}
	return h
}

// pathLength is how many entries follow needs.
func pathLength(n, i int) int {
	length := 0
	for ; n > 1; n, i = (n+1)/2, i/2 {
		if i%2 == 1 || i+1 < n {
			length++
		}
	}
	return length
}

// followBoth is what a growth from m to more leads to, from below; with m a power of two it begins with old.
func followBoth(m, n int, old []byte, growth [][]byte) (was, is []byte) {
	level, at := whole(m)
	if at > 0 {
		old, growth = growth[0], growth[1:]
	}
	was, is = old, old
	for n = (n-1)>>level + 1; n > 1; n, at = (n+1)/2, at/2 {
		switch {
		case at%2 == 1:
			was, is, growth = node(growth[0], was), node(growth[0], is), growth[1:]
		case at+1 < n:
			is, growth = node(is, growth[0]), growth[1:]
		}
	}
	if len(growth) > 0 {
		panic("the growth is too long")
	}
	return was, is
}

// growthLength is how many entries followBoth needs.
func growthLength(m, n int) int {
	level, at := whole(m)
	length := pathLength((n-1)>>level+1, at)
	if at > 0 {
		length++
	}
	return length
}

// entries are n hashes of nothing in particular.
func entries(n int) [][]byte {
	var l [][]byte
	for i := range n {
		l = append(l, some(32, "entry"+strconv.Itoa(i)))
	}
	return l
}

// with is the list with another entry at i.
func with(l [][]byte, i int, entry []byte) [][]byte {
	l = slices.Clone(l)
	l[i] = entry
	return l
}

// flips are all bytes that differ from these in one bit.
func flips(b []byte) [][]byte {
	var all [][]byte
	for i := range 8 * len(b) {
		other := bytes.Clone(b)
		other[i/8] ^= 1 << (i % 8)
		all = append(all, other)
	}
	return all
}

// fewFlips are some of them: one bit in each byte.
func fewFlips(b []byte) [][]byte {
	var all [][]byte
	for i := 0; i < 8*len(b); i += 9 {
		all = append(all, flips(b)[i])
	}
	return all
}

// misfits are bytes of other lengths that have much in common with these.
func misfits(b []byte) [][]byte {
	return [][]byte{nil, {}, b[:1], b[:len(b)-1], b[1:], append(bytes.Clone(b), 0), append([]byte{0}, b...), slices.Concat(b, b)}
}

// tooLongOrShort are lists with an entry more or less than this one, or many.
func tooLongOrShort(l [][]byte, more []byte) [][][]byte {
	all := [][][]byte{append(slices.Clone(l), more), append([][]byte{more}, l...), append(slices.Clone(l), make([]byte, 32)), append(slices.Clone(l), entries(100)...), append(slices.Clone(l), nil)}
	if len(l) > 0 {
		all = append(all, nil, [][]byte{}, l[1:], l[:len(l)-1], append(slices.Clone(l), l...))
	}
	if len(l) > 2 {
		all = append(all, slices.Delete(slices.Clone(l), 1, 2), slices.Insert(slices.Clone(l), 1, more))
	}
	return all
}

func is(t *testing.T, what string, got []byte, errno api.Errno, want []byte) {
	t.Helper()
	if errno != api.OK || !bytes.Equal(got, want) {
		t.Errorf("%s: %x, %d, want %x", what, got, errno, want)
	}
}

func areAll(t *testing.T, what string, got [][]byte, errno api.Errno, want [][]byte) {
	t.Helper()
	if errno != api.OK || !slices.EqualFunc(got, want, bytes.Equal) {
		t.Errorf("%s: %x, %d, want %x", what, got, errno, want)
	}
}

// fails also holds that an error comes alone (E4).
func fails[T []byte | [][]byte](t *testing.T, what string, got T, errno, want api.Errno) {
	t.Helper()
	if errno != want || len(got) != 0 {
		t.Errorf("%s: %x, %d, want %d", what, got, errno, want)
	}
}

func holds(t *testing.T, what string, got bool) {
	t.Helper()
	if !got {
		t.Errorf("%s: false", what)
	}
}

func wrong(t *testing.T, what string, got bool) {
	t.Helper()
	if got {
		t.Errorf("%s: true", what)
	}
}
