package tree_test

import (
	"encoding/hex"
	"math"
	"strconv"
	"testing"

	"mintvault/api"
	"mintvault/tree"
)

// counts are all small ones, and those around powers of two, to as many as there may be.
func counts() []int {
	var l []int
	for n := range 70 {
		l = append(l, n)
	}
	return append(l, 127, 128, 129, 255, 256, 257, 500, 511, 512, 513, 777, 1022, 1023, 1024)
}

// tooMany are numbers of leaves that are more than there may be.
func tooMany() []int { return []int{1025, 1026, 2048, 5000} }

func TestRoot(t *testing.T) {
	for _, n := range counts() {
		for i, l := range lists(n) {
			got, errno := tree.Root(l)
			is(t, "T1: Root of "+strconv.Itoa(n)+", list "+strconv.Itoa(i), got, errno, rootOf(l))
		}
	}
	for _, n := range tooMany() {
		for _, l := range lists(n) {
			got, errno := tree.Root(l)
			fails(t, "T1: Root of "+strconv.Itoa(n), got, errno, api.ErrLong)
		}
	}
}

// The roots of few leaves, node by node, as the document's words give them.
func TestRootsByHand(t *testing.T) {
	var h [10][]byte
	leaves := others(9)
	for i, b := range leaves {
		h[i] = leafHash(b)
	}
	four := node(node(h[0], h[1]), node(h[2], h[3]))
	eight := node(four, node(node(h[4], h[5]), node(h[6], h[7])))
	for n, want := range [][]byte{
		tag("none"), h[0], node(h[0], h[1]), node(node(h[0], h[1]), h[2]), four, node(four, h[4]),
		node(four, node(h[4], h[5])), node(four, node(node(h[4], h[5]), h[6])), eight, node(eight, h[8]),
	} {
		got, errno := tree.Root(leaves[:n])
		is(t, "T1: Root of "+strconv.Itoa(n), got, errno, want)
	}
}

func TestRootOfNothing(t *testing.T) {
	for _, none := range [][][]byte{nil, {}} {
		got, errno := tree.Root(none)
		is(t, "T1: Root of no leaves", got, errno, tag("none"))
	}
	for _, one := range [][][]byte{{nil}, {{}}} {
		got, errno := tree.Root(one)
		is(t, "T1: Root of one empty leaf", got, errno, leafHash(nil))
	}
}

func TestRootAsTheDocumentTells(t *testing.T) {
	got, errno := tree.Root([][]byte{[]byte("a"), []byte("b"), []byte("c")})
	if errno != api.OK || hex.EncodeToString(got[:8]) != "b39794a2c05d844a" {
		t.Errorf("T1: Root of a, b, c: %x, %d", got, errno)
	}
}

// Whatever changes in a list changes its root.
func TestRootsDiffer(t *testing.T) {
	leaves := others(7)
	seen := map[string]string{}
	tell := func(what string, l [][]byte) {
		got, errno := tree.Root(l)
		if before, there := seen[string(got)]; there || errno != api.OK {
			t.Errorf("T1: %s has the root of %s, %d", what, before, errno)
		}
		seen[string(got)] = what
	}
	for n := range 8 {
		tell(strconv.Itoa(n)+" leaves", leaves[:n])
		tell(strconv.Itoa(n)+" leaves and an empty one", append(append([][]byte{}, leaves[:n]...), nil))
	}
	for i := range leaves {
		tell("another leaf "+strconv.Itoa(i), with(leaves, i, []byte("another")))
	}
	tell("two that changed places", with(with(leaves, 0, leaves[1]), 1, leaves[0]))
	tell("a leaf that is a node", [][]byte{node(leafHash(leaves[0]), leafHash(leaves[1]))})
}

func TestPath(t *testing.T) {
	for _, n := range []int{1, 2, 3, 4, 5, 6, 7, 8, 9, 15, 16, 17, 31, 33, 1023, 1024} {
		for k, l := range lists(n) {
			for i := k; i < n; i += 1 + n/8 {
				got, errno := tree.Path(l, i)
				areAll(t, "T1: Path of "+strconv.Itoa(i)+" of "+strconv.Itoa(n)+", list "+strconv.Itoa(k), got, errno, pathOf(l, i))
			}
			got, errno := tree.Path(l, 0)
			areAll(t, "T1: Path of the first of "+strconv.Itoa(n), got, errno, pathOf(l, 0))
			got, errno = tree.Path(l, n-1)
			areAll(t, "T1: Path of the last of "+strconv.Itoa(n), got, errno, pathOf(l, n-1))
		}
	}
}

// outside are i that are none among n leaves.
func outside(n int) []int {
	return []int{-1, -2, n, n + 1, -n - 1, 2*n + 1, math.MinInt, math.MaxInt, math.MinInt32, math.MaxInt32, 1 << 32, -1 << 32}
}

func TestPathOutside(t *testing.T) {
	for _, n := range []int{0, 1, 2, 3, 4, 7, 8, 1023, 1024} {
		for _, l := range lists(n) {
			for _, i := range outside(n) {
				got, errno := tree.Path(l, i)
				fails(t, "T1: Path of "+strconv.Itoa(i)+" of "+strconv.Itoa(n), got, errno, api.ErrRange)
			}
		}
	}
	for _, i := range []int{0, 1, -1} {
		got, errno := tree.Path(nil, i)
		fails(t, "T1: Path of no leaves", got, errno, api.ErrRange)
	}
}

// What is too long is told ahead of what is out of range.
func TestTooManyLeaves(t *testing.T) {
	for _, n := range tooMany() {
		l := others(n)
		for _, i := range append(outside(n), 0, 1, n-1, 1023, 1024) {
			got, errno := tree.Path(l, i)
			fails(t, "T1: Path of "+strconv.Itoa(i)+" of "+strconv.Itoa(n), got, errno, api.ErrLong)
			got, errno = tree.Growth(l, i)
			fails(t, "T1: Growth from "+strconv.Itoa(i)+" to "+strconv.Itoa(n), got, errno, api.ErrLong)
		}
	}
}

func TestGrowth(t *testing.T) {
	for _, n := range []int{1, 2, 3, 4, 5, 6, 7, 8, 9, 15, 16, 17, 31, 33, 1023, 1024} {
		for k, l := range lists(n) {
			for m := 1 + k; m <= n; m += 1 + n/8 {
				got, errno := tree.Growth(l, m)
				areAll(t, "T1: Growth from "+strconv.Itoa(m)+" to "+strconv.Itoa(n)+", list "+strconv.Itoa(k), got, errno, growthOf(l, m))
			}
			for m := 1; m <= n; m *= 4 {
				got, errno := tree.Growth(l, m)
				areAll(t, "T1: Growth from the power "+strconv.Itoa(m)+" to "+strconv.Itoa(n), got, errno, growthOf(l, m))
			}
			got, errno := tree.Growth(l, n)
			areAll(t, "T1: Growth from all of "+strconv.Itoa(n), got, errno, nil)
		}
	}
}

// The growths of few leaves, as the document's words give them.
func TestGrowthsByHand(t *testing.T) {
	leaves := others(7)
	h := func(from, to int) []byte { return rootOf(leaves[from:to]) }
	for m, want := range [][][]byte{
		1: {h(1, 2), h(2, 4), h(4, 7)}, 2: {h(2, 4), h(4, 7)}, 3: {h(2, 3), h(3, 4), h(0, 2), h(4, 7)}, 4: {h(4, 7)},
		5: {h(4, 5), h(5, 6), h(6, 7), h(0, 4)}, 6: {h(4, 6), h(6, 7), h(0, 4)}, 7: nil,
	} {
		if m > 0 {
			got, errno := tree.Growth(leaves, m)
			areAll(t, "T1: Growth from "+strconv.Itoa(m)+" to 7", got, errno, want)
		}
	}
	for i, want := range [][][]byte{
		{h(1, 2), h(2, 4), h(4, 7)}, {h(0, 1), h(2, 4), h(4, 7)}, {h(3, 4), h(0, 2), h(4, 7)}, {h(2, 3), h(0, 2), h(4, 7)},
		{h(5, 6), h(6, 7), h(0, 4)}, {h(4, 5), h(6, 7), h(0, 4)}, {h(4, 6), h(0, 4)},
	} {
		got, errno := tree.Path(leaves, i)
		areAll(t, "T1: Path of "+strconv.Itoa(i)+" of 7", got, errno, want)
	}
}

func TestGrowthOutside(t *testing.T) {
	for _, n := range []int{0, 1, 2, 3, 4, 7, 8, 1023, 1024} {
		for _, l := range lists(n) {
			for _, m := range append(outside(n), 0) {
				if m == n {
					continue
				}
				got, errno := tree.Growth(l, m)
				fails(t, "T1: Growth from "+strconv.Itoa(m)+" to "+strconv.Itoa(n), got, errno, api.ErrRange)
			}
		}
	}
	for _, m := range []int{0, 1, -1} {
		got, errno := tree.Growth(nil, m)
		fails(t, "T1: Growth of no leaves", got, errno, api.ErrRange)
	}
}
