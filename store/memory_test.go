package store_test

import (
	"bytes"
	"slices"
	"testing"

	"mintvault/api"
	"mintvault/store"
)

// guarded puts bytes into the middle of others, so that whatever is written beside them or over them shows.
type guarded struct {
	all    []byte
	before []byte
	b      []byte
}

func guard(b []byte) guarded {
	const room = 300
	all := some(len(b)+2*room, "guard")
	copy(all[room:], b)
	return guarded{all, bytes.Clone(all), all[room : room+len(b)]}
}

func (g guarded) check(t *testing.T, what string) {
	t.Helper()
	if !bytes.Equal(g.all, g.before) {
		t.Errorf("E2: %s: what was handed in, or what lies around it, has changed", what)
	}
}

// spoil writes over bytes and all of their spare room.
func spoil(b []byte) {
	b = b[:cap(b)]
	for i := range b {
		b[i] ^= 0xa5
	}
}

func TestMemoryOfAdd(t *testing.T) {
	s := begun(t, 65536)
	var all [][]byte
	for _, r := range records() {
		g := guard(r)
		adds(t, "E2", s, g.b, api.OK)
		g.check(t, "Add")
		all = append(all, bytes.Clone(r))
		spoil(g.b)
		holds(t, "E2: what was handed in is written over", s, all, diskOf(all...))
	}
}

func TestMemoryOfRefusals(t *testing.T) {
	s := begun(t, 64)
	for _, n := range []int{53, 16384, 16385} {
		g := guard(some(n, "refused"))
		s.Add(g.b)
		g.check(t, "Add that is refused")
	}
	s.Arm(7)
	g := guard([]byte("abcdef"))
	s.Add(g.b)
	g.check(t, "Add while the power goes")
	spoil(g.b)
	disk := frame(0, []byte("abcdef"))[:7]
	holds(t, "E2: while the power goes", s, nil, disk)
	g = guard(some(100, "off"))
	s.Add(g.b)
	g.check(t, "Add without power")
	for _, limit := range []int{0, 64} {
		g = guard(make([]byte, 65))
		store.Open(g.b, limit)
		g.check(t, "Open that is refused")
	}
}

func TestMemoryOfOpen(t *testing.T) {
	all := records()
	whole := diskOf(all...)
	for _, disk := range [][]byte{whole, append(bytes.Clone(whole), some(500, "behind")...), whole[:len(whole)-1]} {
		g := guard(disk)
		s := opened(t, g.b, 65536)
		g.check(t, "Open")
		want := all[:s.Len()]
		other := opened(t, g.b, 65536)
		adds(t, "E2: behind Open", s, []byte("more"), api.OK)
		g.check(t, "Add behind Open")
		holds(t, "E2: another one with the same disk", other, want, diskOf(want...))
		spoil(g.b)
		more := append(slices.Clip(want), []byte("more"))
		holds(t, "E2: what was handed in is written over", s, more, diskOf(more...))
	}
}

// Writing over an answer shows neither in the store nor in another answer.
func TestMemoryOfAnswers(t *testing.T) {
	all := records()
	for _, s := range stores(t, 65536, all...) {
		kept, _ := s.Record(0)
		for i := range all {
			r, _ := s.Record(i)
			again, _ := s.Record(i)
			spoil(r)
			if !bytes.Equal(again, all[i]) {
				t.Errorf("E2: two answers of Record %d share memory", i)
			}
			holds(t, "E2: a record is written over", s, all, diskOf(all...))
		}
		disk, again := s.Disk(), s.Disk()
		spoil(disk)
		if !bytes.Equal(again, diskOf(all...)) || !bytes.Equal(kept, all[0]) {
			t.Error("E2: answers share memory")
		}
		holds(t, "E2: the disk is written over", s, all, diskOf(all...))
		r, _ := s.Record(0)
		disk = s.Disk()
		adds(t, "E2: behind answers", s, []byte("more"), api.OK)
		if !bytes.Equal(disk, diskOf(all...)) || !bytes.Equal(r, all[0]) {
			t.Error("E2: Add changes what was answered")
		}
		spoil(disk)
		more := append(slices.Clip(all), []byte("more"))
		holds(t, "E2: behind answers", s, more, diskOf(more...))
	}
}

// What reached the disk when the power went is answered as new memory, too.
func TestMemoryWithoutPower(t *testing.T) {
	s := begun(t, 64)
	adds(t, "E2", s, []byte("abc"), api.OK)
	s.Arm(6)
	adds(t, "E2", s, []byte("def"), api.ErrPower)
	want := slices.Concat(diskOf(texts("abc")...), frame(1, []byte("def"))[:6])
	spoil(s.Disk())
	holds(t, "E2: without power", s, texts("abc"), want)
}
