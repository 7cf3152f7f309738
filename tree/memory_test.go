package tree_test

import (
	"bytes"
	"slices"
	"testing"

	"mintvault/api"
	"mintvault/tree"
)

// guarded puts bytes into the middle of others, so that whatever is written beside them or over them shows.
type guarded struct {
	all    []byte
	before []byte
	b      []byte
}

func guard(b []byte) guarded {
	const room = 100
	all := some(len(b)+2*room, "around")
	copy(all[room:], b)
	return guarded{all, bytes.Clone(all), all[room : room+len(b)]}
}

func (g guarded) check(t *testing.T, what string) {
	t.Helper()
	if !bytes.Equal(g.all, g.before) {
		t.Errorf("E2: %s: what was handed in, or what lies around it, has changed", what)
	}
}

// guardedList is a list of guarded bytes with something in its spare room.
type guardedList struct {
	entries []guarded
	room    [][]byte
	spare   []byte
}

func guardList(l [][]byte) guardedList {
	g := guardedList{spare: []byte("spare")}
	for _, b := range l {
		each := guard(b)
		g.entries, g.room = append(g.entries, each), append(g.room, each.b)
	}
	g.room = append(g.room, g.spare)
	return g
}

func (g guardedList) list() [][]byte { return g.room[:len(g.entries)] }

func (g guardedList) check(t *testing.T, what string) {
	t.Helper()
	for i, each := range g.entries {
		each.check(t, what)
		if len(g.room[i]) != len(each.b) || len(each.b) > 0 && &g.room[i][0] != &each.b[0] {
			t.Errorf("E2: %s: entry %d of a list has changed", what, i)
		}
	}
	if last := g.room[len(g.entries)]; &last[0] != &g.spare[0] || string(last) != "spare" {
		t.Errorf("E2: %s: the spare room of a list has changed", what)
	}
}

// spoil writes over bytes and all of their spare room.
func spoil(b []byte) {
	b = b[:cap(b)]
	for i := range b {
		b[i] ^= 0xa5
	}
}

func copied(l [][]byte) [][]byte {
	var all [][]byte
	for _, b := range l {
		all = append(all, bytes.Clone(b))
	}
	return all
}

// answersApart writes over an answer, piece by piece: that must show neither in its other pieces, nor in what was handed in, nor in another answer; and what was handed in may change behind the answer.
func answersApart(t *testing.T, what string, given [][]byte, ask func([][]byte) [][]byte) {
	t.Helper()
	g := guardList(given)
	first, second := ask(g.list()), ask(g.list())
	want, now := copied(first), copied(first)
	for i, b := range first {
		spoil(b)
		now[i] = bytes.Clone(b)
		if !slices.EqualFunc(first, now, bytes.Equal) {
			t.Errorf("E2: %s: piece %d shares memory with another", what, i)
		}
	}
	whole := first[:cap(first)]
	for i := range whole {
		whole[i] = []byte("written over")
	}
	g.check(t, what)
	third := ask(g.list())
	for _, each := range g.entries {
		spoil(each.b)
	}
	if !slices.EqualFunc(second, want, bytes.Equal) || !slices.EqualFunc(third, want, bytes.Equal) {
		t.Errorf("E2: %s: answers share memory", what)
	}
}

func TestMemory(t *testing.T) {
	for _, n := range []int{0, 1, 2, 3, 4, 5, 7, 8, 9, 20, 1024} {
		for _, l := range [][][]byte{others(n), same(n, make([]byte, 32)), same(n, nil)} {
			answersApart(t, at("Root of", n), l, func(l [][]byte) [][]byte {
				root, _ := tree.Root(l)
				return [][]byte{root}
			})
			for _, i := range []int{0, n / 2, n - 1} {
				answersApart(t, at("Path of, in", i, n), l, func(l [][]byte) [][]byte {
					path, _ := tree.Path(l, i)
					return path
				})
				answersApart(t, at("Growth from, to", i+1, n), l, func(l [][]byte) [][]byte {
					growth, _ := tree.Growth(l, i+1)
					return growth
				})
			}
		}
	}
}

func TestMemoryOfWhoLooks(t *testing.T) {
	for _, n := range []int{1, 2, 3, 7, 8, 9, most, most + 1} {
		for _, i := range []int{0, n / 2, n - 1} {
			l := made(n, i)
			for _, path := range append(tooLongOrShort(l.path, l.root), l.path) {
				root, leaf, guarded := guard(l.root), guard(l.leaf), guardList(path)
				tree.Lies(root.b, n, i, leaf.b, guarded.list())
				root.check(t, "Lies")
				leaf.check(t, "Lies")
				guarded.check(t, "Lies")
			}
			g := madeGrow(i+1, n)
			for _, growth := range append(tooLongOrShort(g.growth, g.root), g.growth) {
				old, root, guarded := guard(g.old), guard(g.root), guardList(growth)
				tree.Grown(old.b, i+1, root.b, n, guarded.list())
				old.check(t, "Grown")
				root.check(t, "Grown")
				guarded.check(t, "Grown")
			}
		}
	}
}

// The errors, too, only read what they are handed.
func TestMemoryOfErrors(t *testing.T) {
	for _, n := range []int{0, 1, 7, 1025} {
		g := guardList(others(n))
		for _, i := range []int{-1, n, n + 1} {
			if _, errno := tree.Path(g.list(), i); errno == api.OK {
				t.Errorf("T1: Path of %d of %d: OK", i, n)
			}
			tree.Growth(g.list(), i)
		}
		tree.Root(g.list())
		g.check(t, at("an error, of", n))
	}
}
