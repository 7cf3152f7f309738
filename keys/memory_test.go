package keys_test

import (
	"bytes"
	"slices"
	"testing"

	"mintvault/api"
	"mintvault/keys"
)

// guarded puts a list into the middle of others, so that whatever is written beside it or over it shows.
type guarded[T comparable] struct {
	all    []T
	before []T
	list   []T
}

func guard[T comparable](list []T, around T) guarded[T] {
	room := slices.Repeat([]T{around}, 100)
	all := slices.Concat(room, list, room)
	return guarded[T]{all, slices.Clone(all), all[100 : 100+len(list)]}
}

func (g guarded[T]) check(t *testing.T, what string) {
	t.Helper()
	if !slices.Equal(g.all, g.before) {
		t.Errorf("E2: %s: what was handed in, or what lies around it, has changed", what)
	}
}

// spoil writes over a list and all of its spare room.
func spoil[T comparable](list []T, with T) {
	list = list[:cap(list)]
	for i := range list {
		list[i] = with
	}
}

// answersApart asks again and again: an answer that is written over must show neither in what was handed in nor in another answer, and what was handed in may change behind the answer.
func answersApart(t *testing.T, what string, seed []byte, path []uint32, ask func([]byte, []uint32) ([]byte, api.Errno)) {
	t.Helper()
	s, p := guard(seed, 0xa5), guard(path, 0xa5a5a5a5)
	first, errno := ask(s.list, p.list)
	want := bytes.Clone(first)
	if errno != api.OK {
		t.Errorf("E2: %s: %d", what, errno)
	}
	second, _ := ask(s.list, p.list)
	spoil(first, 0x5a)
	s.check(t, what)
	p.check(t, what)
	third, _ := ask(s.list, p.list)
	spoil(s.list, 0x77)
	spoil(p.list, 0x77)
	if !bytes.Equal(second, want) || !bytes.Equal(third, want) {
		t.Errorf("E2: %s: answers share memory", what)
	}
}

func TestMemory(t *testing.T) {
	for _, seed := range seeds() {
		for _, path := range paths() {
			answersApart(t, "Derive", seed, path, func(seed []byte, path []uint32) ([]byte, api.Errno) {
				return keys.Derive(seed, "label", path)
			})
			answersApart(t, "Scalar", seed, path, func(seed []byte, path []uint32) ([]byte, api.Errno) {
				return keys.Scalar(seed, "label", path)
			})
		}
		for _, amount := range amounts() {
			answersApart(t, "Key", seed, nil, func(seed []byte, _ []uint32) ([]byte, api.Errno) {
				return keys.Key(seed, 5, amount)
			})
		}
		for i := range 21 {
			answersApart(t, "Set", seed, nil, func(seed []byte, _ []uint32) ([]byte, api.Errno) {
				set, errno := keys.Set(seed, 5)
				return pieces(set)[i], errno
			})
		}
	}
}

// pieces are all the bytes of a set.
func pieces(set api.Keyset) [][]byte { return append([][]byte{set.Name}, set.Public...) }

func copied(l [][]byte) [][]byte {
	var all [][]byte
	for _, b := range l {
		all = append(all, bytes.Clone(b))
	}
	return all
}

// Writing over one piece of a set shows in no other piece of it, nor in another set.
func TestPiecesOfASet(t *testing.T) {
	set, _ := keys.Set(some(32, "seed"), 5)
	other, _ := keys.Set(some(32, "seed"), 5)
	all, want := pieces(set), copied(pieces(set))
	now := copied(all)
	for i, b := range all {
		spoil(b, 0x5a)
		now[i] = bytes.Clone(b)
		if !slices.EqualFunc(all, now, bytes.Equal) {
			t.Errorf("E2: Set: piece %d shares memory with another", i)
		}
	}
	list := set.Public[:cap(set.Public)]
	for i := range list {
		list[i] = []byte("written over")
	}
	if !slices.EqualFunc(pieces(other), want, bytes.Equal) {
		t.Error("E2: two sets share memory")
	}
}

func TestMemoryOfSplit(t *testing.T) {
	for _, amount := range []uint64{0, 1, 11, 1<<19 - 1, 1 << 19, 1<<20 + 3, 64 << 19} {
		first, _ := keys.Split(amount)
		second, _ := keys.Split(amount)
		want := slices.Clone(first)
		spoil(first, 3)
		third, _ := keys.Split(amount)
		if !slices.Equal(second, want) || !slices.Equal(third, want) {
			t.Errorf("E2: Split of %d: answers share memory", amount)
		}
	}
}

// The errors, too, only read what they are handed.
func TestMemoryOfErrors(t *testing.T) {
	for _, seed := range append(noSeeds(), seeds()...) {
		for _, path := range longPaths() {
			s, p := guard(seed, 0xa5), guard(path, 0xa5a5a5a5)
			keys.Derive(s.list, "label", p.list)
			keys.Scalar(s.list, "label", p.list)
			keys.Key(s.list, 5, 3)
			keys.Set(s.list, 5)
			s.check(t, "an error")
			p.check(t, "an error")
		}
	}
}
