package tree_test

import (
	"math"
	"slices"
	"strconv"
	"testing"

	"mintvault/api"
	"mintvault/tree"
)

func at(what string, numbers ...int) string {
	for _, n := range numbers {
		what += " " + strconv.Itoa(n)
	}
	return what
}

// Each leaf lies where its path says, and nowhere else.
func TestEachLeafLies(t *testing.T) {
	for n := 1; n <= 33; n++ {
		l := others(n)
		root, _ := tree.Root(l)
		for i := range n {
			path, errno := tree.Path(l, i)
			holds(t, at("T2: leaf and number:", i, n), errno == api.OK && tree.Lies(root, n, i, l[i], path))
			for j := range n {
				if j != i {
					wrong(t, at("T2: the path of another place:", i, j, n), tree.Lies(root, n, j, l[i], path))
					wrong(t, at("T2: another leaf:", i, j, n), tree.Lies(root, n, i, l[j], path))
					wrong(t, at("T2: the path of another leaf:", i, j, n), tree.Lies(root, n, j, l[j], path))
				}
			}
		}
	}
}

// lie is a leaf with all that Lies is asked of it.
type lie struct {
	root []byte
	n, i int
	leaf []byte
	path [][]byte
}

func (l lie) asked() bool { return tree.Lies(l.root, l.n, l.i, l.leaf, l.path) }

// made is a lie that holds: its path's entries are anything, its root is what they lead to.
func made(n, i int) lie {
	path, leaf := entries(pathLength(n, i)), []byte("leaf")
	return lie{follow(n, i, leaf, path), n, i, leaf, path}
}

// lieCounts are numbers of leaves to the most that there may be.
func lieCounts() []int {
	l := []int{1, 2, 3, 4, 5, 6, 7, 8, 9, 100, 1023, 1024, 1025, 65535, 65536, 65537, 524287, 524288, 524289, 700000, most - 2, most - 1, most}
	return append(l, 0x55555, 0xaaaaa)
}

func places(n int) []int {
	all := []int{0, 1, n / 3, n / 2, n/2 - 1, n - 2, n - 1}
	for k := 1; k <= n; k *= 2 {
		all = append(all, k-1, k, n-k)
	}
	all = slices.DeleteFunc(all, func(i int) bool { return i < 0 || i >= n })
	slices.Sort(all)
	return slices.Compact(all)
}

func TestLiesInManyLeaves(t *testing.T) {
	for _, n := range lieCounts() {
		for _, i := range places(n) {
			l := made(n, i)
			holds(t, at("T2: of and at:", n, i), l.asked())
			for _, other := range tooLongOrShort(l.path, l.root) {
				wrong(t, at("T2: a path that is too long or too short, of and at:", n, i), tree.Lies(l.root, n, i, l.leaf, other))
			}
		}
	}
}

// At another place the same path leads elsewhere, or to nothing.
func TestLiesElsewhere(t *testing.T) {
	for _, n := range []int{1, 2, 3, 4, 5, 6, 7, 8, 9, 100, 1023, 1024, 1025, most - 1, most} {
		for _, i := range places(n) {
			l := made(n, i)
			for _, j := range places(n) {
				if j != i {
					wrong(t, at("T2: of, at, asked at:", n, i, j), tree.Lies(l.root, n, j, l.leaf, l.path))
				}
			}
		}
	}
}

func TestLiesChanged(t *testing.T) {
	for _, n := range []int{1, 2, 3, 7, 8, 1000, most} {
		for _, i := range []int{0, n / 2, n - 1} {
			l := made(n, i)
			for _, root := range append(flips(l.root), misfits(l.root)...) {
				wrong(t, at("T2: another root, of and at:", n, i), tree.Lies(root, n, i, l.leaf, l.path))
			}
			for _, leaf := range append(flips(l.leaf), misfits(l.leaf)...) {
				wrong(t, at("T2: another leaf, of and at:", n, i), tree.Lies(l.root, n, i, leaf, l.path))
			}
			for k, entry := range l.path {
				for _, other := range append(fewFlips(entry), misfits(entry)...) {
					wrong(t, at("T2: another entry, of and at:", n, i, k), tree.Lies(l.root, n, i, l.leaf, with(l.path, k, other)))
				}
			}
		}
	}
}

// An entry of another length is refused even where the path leads to the root.
func TestLiesByEntriesOfOtherLengths(t *testing.T) {
	for _, n := range []int{2, 3, 7, 8, most} {
		for _, i := range []int{0, n / 2, n - 1} {
			l := made(n, i)
			for k, entry := range l.path {
				for _, other := range misfits(entry) {
					path := with(l.path, k, other)
					wrong(t, at("T2: an entry of another length, of and at:", n, i, k), tree.Lies(follow(n, i, l.leaf, path), n, i, l.leaf, path))
				}
			}
		}
	}
}

// noCounts are numbers of leaves that are none.
func noCounts() []int {
	return []int{0, -1, -2, -most, most + 1, most + 2, 2 * most, 1 << 32, 1<<32 + 1, math.MaxInt32, math.MinInt32, math.MaxInt, math.MinInt}
}

func TestLiesInNoSuchNumber(t *testing.T) {
	for _, n := range []int{most + 1, most + 2, most + most/2, 2 * most} {
		for _, i := range []int{0, 1, most / 2, most - 1, most, n - 1} {
			l := made(n, i)
			wrong(t, at("T2: of too many, at:", n, i), l.asked())
		}
	}
	for _, n := range noCounts() {
		for _, i := range []int{0, -1, 1, n, n - 1} {
			for _, of := range []int{1, 2, most} {
				l := made(of, of-1)
				wrong(t, at("T2: of no such number, at:", n, i), tree.Lies(l.root, n, i, l.leaf, l.path))
			}
			wrong(t, at("T2: of no such number, at:", n, i), tree.Lies(tag("none"), n, i, nil, nil))
			wrong(t, at("T2: of no such number, at:", n, i), tree.Lies(nil, n, i, nil, nil))
		}
	}
}

func TestLiesOutside(t *testing.T) {
	for _, n := range []int{1, 2, 3, 7, 8, 1024, most} {
		for _, i := range []int{0, n / 2, n - 1} {
			l := made(n, i)
			for _, j := range append(outside(n), i-n, i+n, -1-i, i+most, i-most) {
				if j < 0 || j >= n {
					wrong(t, at("T2: of, at, asked at:", n, i, j), tree.Lies(l.root, n, j, l.leaf, l.path))
				}
			}
		}
	}
}

func TestLiesOfNothing(t *testing.T) {
	for _, empty := range [][]byte{nil, {}} {
		for _, path := range [][][]byte{nil, {}} {
			holds(t, "T2: one leaf that is empty", tree.Lies(leafHash(nil), 1, 0, empty, path))
			wrong(t, "T2: an empty root", tree.Lies(empty, 1, 0, empty, path))
			for n := range 9 {
				wrong(t, at("T2: an empty root and path:", n), tree.Lies(empty, n, 0, empty, path))
			}
		}
		wrong(t, "T2: an empty entry", tree.Lies(node(leafHash(nil), nil), 2, 0, nil, [][]byte{empty}))
	}
}
