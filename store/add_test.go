package store_test

import (
	"testing"

	"mintvault/api"
)

func TestAdd(t *testing.T) {
	s, all := begun(t, 1048576), records()
	for i, r := range all {
		adds(t, "D2: an ordinary record", s, r, api.OK)
		holds(t, "D2: an ordinary record", s, all[:i+1], diskOf(all[:i+1]...))
	}
	opensAs(t, "D4: opened again", s.Disk(), all)
}

func TestAddAsTheDocumentTells(t *testing.T) {
	s := begun(t, 64)
	adds(t, "D2: three bytes", s, []byte("abc"), api.OK)
	if n := len(s.Disk()); n != 15 {
		t.Errorf("D2: the frame of three bytes has %d, want 15", n)
	}
}

func TestAddOfNothing(t *testing.T) {
	s := begun(t, 64)
	adds(t, "D2: nil", s, nil, api.OK)
	adds(t, "D2: no bytes", s, []byte{}, api.OK)
	holds(t, "D2: no bytes", s, [][]byte{nil, nil}, diskOf(nil, nil))
}

func TestAddOfLongRecords(t *testing.T) {
	s := begun(t, 65536)
	for _, n := range []int{16385, 16386, 32768, 65524, 65525, 65536, 65537, 1 << 20, 1 << 24} {
		adds(t, "D2: too long", s, make([]byte, n), api.ErrLong)
		holds(t, "D2: too long", s, nil, nil)
	}
	longest, nearly := some(16384, "a"), some(16383, "b")
	adds(t, "D2: the longest", s, longest, api.OK)
	adds(t, "D2: nearly the longest", s, nearly, api.OK)
	adds(t, "D2: too long", s, make([]byte, 16385), api.ErrLong)
	opensAs(t, "D2: the longest", s.Disk(), [][]byte{longest, nearly})
}

// Each number of bytes ahead of the end, and each number of bytes beyond.
func TestRoom(t *testing.T) {
	for ahead := range 41 {
		for n := range 60 {
			s := begun(t, 64)
			first, second := some(ahead, "first"), some(n, "second")
			adds(t, "D2: the first one", s, first, api.OK)
			if ahead+n+2*around > 64 {
				adds(t, "D2: no room", s, second, api.ErrFull)
				holds(t, "D2: no room", s, [][]byte{first}, diskOf(first))
				continue
			}
			adds(t, "D2: room", s, second, api.OK)
			holds(t, "D2: room", s, [][]byte{first, second}, diskOf(first, second))
		}
	}
}

// A record that has no room is not the end: a shorter one has.
func TestAddBehindARefusal(t *testing.T) {
	s := begun(t, 100)
	adds(t, "D2: no room", s, make([]byte, 89), api.ErrFull)
	adds(t, "D2: too long", s, make([]byte, 16385), api.ErrLong)
	adds(t, "D2: a shorter one", s, []byte("abc"), api.OK)
	adds(t, "D2: no room", s, make([]byte, 74), api.ErrFull)
	adds(t, "D2: just room", s, make([]byte, 73), api.OK)
	want := [][]byte{[]byte("abc"), make([]byte, 73)}
	holds(t, "D2: behind refusals", s, want, diskOf(want...))
}

// A record that is too long has no room, either: what is told is that it is too long.
func TestTooLongAheadOfFull(t *testing.T) {
	s := begun(t, 64)
	adds(t, "D2: too long for any store", s, make([]byte, 16385), api.ErrLong)
	adds(t, "D2: too long for this store", s, make([]byte, 16384), api.ErrFull)
	adds(t, "D2: just room", s, make([]byte, 52), api.OK)
	adds(t, "D2: too long for any store", s, make([]byte, 16385), api.ErrLong)
	adds(t, "D2: no room", s, make([]byte, 16384), api.ErrFull)
}

// The room of an opened store is what its records leave, whatever else was on the disk.
func TestRoomBehindOpen(t *testing.T) {
	disk := append(diskOf(texts("abc")...), some(49, "gone")...)
	s := opened(t, disk, 64)
	adds(t, "D2: no room", s, make([]byte, 38), api.ErrFull)
	adds(t, "D2: just room", s, make([]byte, 37), api.OK)
	want := [][]byte{[]byte("abc"), make([]byte, 37)}
	holds(t, "D2: just room", s, want, diskOf(want...))
}

func TestStoresDoNotKnowOfOneAnother(t *testing.T) {
	a, b := begun(t, 64), begun(t, 1000)
	disk := diskOf(texts("x")...)
	c, d := opened(t, disk, 64), opened(t, disk, 64)
	a.Arm(3)
	c.Arm(0)
	adds(t, "E1: without power", a, []byte("a"), api.ErrPower)
	adds(t, "E1: without power", c, []byte("c"), api.ErrPower)
	adds(t, "E1: another one", b, []byte("b"), api.OK)
	adds(t, "E1: another one", d, []byte("d"), api.OK)
	holds(t, "E1: a", a, nil, []byte{0, 0, 0})
	holds(t, "E1: b", b, texts("b"), diskOf(texts("b")...))
	holds(t, "E1: c", c, texts("x"), disk)
	holds(t, "E1: d", d, texts("x", "d"), diskOf(texts("x", "d")...))
}
