package tree_test

import (
	"slices"
	"testing"

	"mintvault/api"
	"mintvault/tree"
)

// A list goes on with each of its beginnings, and with nothing else.
func TestEachBeginningHasGrown(t *testing.T) {
	for n := 1; n <= 33; n++ {
		l := others(n)
		root, _ := tree.Root(l)
		for m := 1; m <= n; m++ {
			old, _ := tree.Root(l[:m])
			growth, errno := tree.Growth(l, m)
			holds(t, at("T3: from and to:", m, n), errno == api.OK && tree.Grown(old, m, root, n, growth))
			for other := 1; other <= n; other++ {
				if other == m {
					continue
				}
				wrong(t, at("T3: from another number:", m, other, n), tree.Grown(old, other, root, n, growth))
				wrong(t, at("T3: from another root:", m, other, n), tree.Grown(rootOf(l[:other]), m, root, n, growth))
				wrong(t, at("T3: the growth from another:", m, other, n), tree.Grown(rootOf(l[:other]), other, root, n, growth))
			}
		}
	}
}

// A list whose beginning was changed does not go on with what it was.
func TestChangedBeginningHasNotGrown(t *testing.T) {
	for n := 2; n <= 17; n++ {
		l := others(n)
		for m := 1; m <= n; m++ {
			other := with(l, m/2, []byte("another"))
			growth, _ := tree.Growth(l, m)
			changed, _ := tree.Growth(other, m)
			for _, g := range [][][]byte{growth, changed} {
				wrong(t, at("T3: a changed beginning, from and to:", m, n), tree.Grown(rootOf(l[:m]), m, rootOf(other), n, g))
			}
		}
	}
}

// grow is all that Grown is asked.
type grow struct {
	old    []byte
	m      int
	root   []byte
	n      int
	growth [][]byte
}

func (g grow) asked() bool { return tree.Grown(g.old, g.m, g.root, g.n, g.growth) }

// madeGrow is a growth that holds: its entries are anything, old and root are what they lead to.
func madeGrow(m, n int) grow {
	if m == n {
		root := some(32, "root")
		return grow{root, m, root, n, nil}
	}
	growth := entries(growthLength(m, n))
	old, root := followBoth(m, n, some(32, "old"), growth)
	return grow{old, m, root, n, growth}
}

// beginnings are m from 1 to n, powers of two and others.
func beginnings(n int) []int {
	var all []int
	for _, i := range places(n) {
		all = append(all, i+1)
	}
	return all
}

func TestGrownToManyLeaves(t *testing.T) {
	for _, n := range lieCounts() {
		for _, m := range beginnings(n) {
			g := madeGrow(m, n)
			holds(t, at("T3: from and to:", m, n), g.asked())
			for _, other := range tooLongOrShort(g.growth, g.root) {
				wrong(t, at("T3: a growth that is too long or too short, from and to:", m, n), tree.Grown(g.old, m, g.root, n, other))
			}
			for _, other := range []int{1, m - 1, m + 1, 2 * m, n - 1, n} {
				if other != m {
					wrong(t, at("T3: from, to, asked from:", m, n, other), tree.Grown(g.old, other, g.root, n, g.growth))
				}
			}
		}
	}
}

func TestGrownChanged(t *testing.T) {
	for _, n := range []int{1, 2, 3, 7, 8, 1000, most} {
		for _, m := range []int{1, 2, n/2 + 1, n - 1, n} {
			if m < 1 || m > n {
				continue
			}
			g := madeGrow(m, n)
			for _, old := range append(flips(g.old), misfits(g.old)...) {
				wrong(t, at("T3: another old root, from and to:", m, n), tree.Grown(old, m, g.root, n, g.growth))
			}
			for _, root := range append(flips(g.root), misfits(g.root)...) {
				wrong(t, at("T3: another root, from and to:", m, n), tree.Grown(g.old, m, root, n, g.growth))
			}
			for k, entry := range g.growth {
				for _, other := range append(fewFlips(entry), misfits(entry)...) {
					wrong(t, at("T3: another entry, from and to:", m, n, k), tree.Grown(g.old, m, g.root, n, with(g.growth, k, other)))
				}
			}
		}
	}
}

// An entry of another length is refused even where the growth leads to both roots.
func TestGrownByEntriesOfOtherLengths(t *testing.T) {
	for _, n := range []int{2, 3, 7, 8, most} {
		for _, m := range []int{1, 2, n/2 + 1, n - 1} {
			if m < 1 || m >= n {
				continue
			}
			g := madeGrow(m, n)
			for k, entry := range g.growth {
				for _, other := range misfits(entry) {
					growth := with(g.growth, k, other)
					old, root := followBoth(m, n, g.old, growth)
					wrong(t, at("T3: an entry of another length, from and to:", m, n, k), tree.Grown(old, m, root, n, growth))
				}
			}
		}
	}
}

// An entry more, where the growth is to begin with the old root, is one too many, even if it is that root.
func TestGrownWithItsBeginningAsAnEntry(t *testing.T) {
	for _, n := range []int{1, 2, 3, 4, 7, 8, 1000, most} {
		for m := 1; m <= n; m *= 2 {
			g := madeGrow(m, n)
			wrong(t, at("T3: from and to:", m, n), tree.Grown(g.old, m, g.root, n, append([][]byte{g.old}, g.growth...)))
		}
		g := madeGrow(n, n)
		wrong(t, at("T3: from all to all:", n), tree.Grown(g.root, n, g.root, n, [][]byte{g.root}))
	}
}

func TestGrownToNoSuchNumber(t *testing.T) {
	for _, n := range []int{most + 1, most + 2, most + most/2, 2 * most} {
		for _, m := range []int{1, 2, 3, most / 2, most - 1, most, most + 1, n - 1, n} {
			wrong(t, at("T3: to too many, from:", n, m), madeGrow(m, n).asked())
		}
	}
	for _, n := range noCounts() {
		for _, m := range []int{0, 1, -1, n, n - 1, most} {
			for _, to := range []int{1, 2, 3, most} {
				for _, from := range []int{1, to - 1, to} {
					if from > 0 {
						g := madeGrow(from, to)
						wrong(t, at("T3: from and to:", m, n), tree.Grown(g.old, m, g.root, n, g.growth))
					}
				}
			}
			wrong(t, at("T3: from and to:", m, n), tree.Grown(tag("none"), m, tag("none"), n, nil))
			wrong(t, at("T3: from and to:", m, n), tree.Grown(nil, m, nil, n, nil))
		}
	}
}

func TestGrownFromOutside(t *testing.T) {
	for _, n := range []int{1, 2, 3, 7, 8, 1024, most} {
		for _, m := range beginnings(n) {
			g := madeGrow(m, n)
			for _, other := range append(outside(n+1), 0, n+1, m-n, m+n, -m, m+most, m-most) {
				if other < 1 || other > n {
					wrong(t, at("T3: from, to, asked from:", m, n, other), tree.Grown(g.old, other, g.root, n, g.growth))
				}
			}
		}
		root := some(32, "root")
		for _, none := range [][]byte{nil, root, tag("none")} {
			wrong(t, at("T3: from 0 to:", n), tree.Grown(none, 0, root, n, nil))
			wrong(t, at("T3: from 0 to:", n), tree.Grown(none, 0, root, n, [][]byte{root}))
			wrong(t, at("T3: from more than all to:", n), tree.Grown(root, n+1, root, n, nil))
		}
	}
}

// Only from all leaves to all of them an empty growth leads to something.
func TestEmptyGrowth(t *testing.T) {
	root := some(32, "root")
	for _, empty := range [][][]byte{nil, {}} {
		for _, n := range lieCounts() {
			holds(t, at("T3: from all to all:", n), tree.Grown(root, n, slices.Clone(root), n, empty))
			for _, m := range beginnings(n) {
				if m < n {
					wrong(t, at("T3: an empty growth, from and to:", m, n), tree.Grown(root, m, root, n, empty))
					wrong(t, at("T3: an empty growth to nothing, from and to:", m, n), tree.Grown(nil, m, nil, n, empty))
				}
			}
		}
	}
}

// The roots are no entries: they are what is led to, whatever their length.
func TestRootsOfOtherLengths(t *testing.T) {
	for _, root := range [][]byte{nil, {}, {1}, make([]byte, 31), make([]byte, 33), make([]byte, 500)} {
		holds(t, "T3: from all to all", tree.Grown(root, 5, slices.Clone(root), 5, nil))
		e := some(32, "entry")
		holds(t, "T3: from 2 to 3", tree.Grown(root, 2, node(root, e), 3, [][]byte{e}))
		wrong(t, "T3: from 2 to 3", tree.Grown(root, 2, root, 3, [][]byte{e}))
	}
}
