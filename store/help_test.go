package store_test

import (
	"bytes"
	"crypto/sha3"
	"encoding/binary"
	"math"
	"slices"
	"strings"
	"testing"

	"mintvault/api"
	"mintvault/store"
)

const (
	most   = 16384 // bytes of a record
	around = 12    // bytes of a frame beside its record
)

// some makes n bytes; other seeds make others.
func some(n int, seed string) []byte { return sha3.SumSHAKE128([]byte(seed), n) }

// tag is Tag by the library's hash.
func tag(label string, parts ...[]byte) []byte {
	h := sha3.New256()
	for _, part := range append([][]byte{[]byte(label)}, parts...) {
		h.Write(binary.BigEndian.AppendUint32(nil, uint32(len(part))))
		h.Write(part)
	}
	return h.Sum(nil)
}

// frame is a record's, of any number and any length.
func frame(number uint64, record []byte) []byte {
	check := tag("frame", binary.BigEndian.AppendUint64(nil, number), record)
	b := binary.BigEndian.AppendUint32(nil, uint32(len(record)))
	return append(append(b, record...), check[:8]...)
}

// diskOf has the frames of records, from the first number on.
func diskOf(records ...[]byte) []byte {
	var b []byte
	for i, r := range records {
		b = append(b, frame(uint64(i), r)...)
	}
	return b
}

// texts are records that are texts.
func texts(s ...string) [][]byte {
	var all [][]byte
	for _, text := range s {
		all = append(all, []byte(text))
	}
	return all
}

// records are of many lengths, and some hold what looks like a frame.
func records() [][]byte {
	return [][]byte{
		[]byte("one"), nil, {}, {0}, {255}, make([]byte, 12), some(255, "r"), some(256, "s"), frame(7, []byte("inner")), diskOf(texts("a", "b")...),
		bytes.Repeat([]byte{255}, 300), some(1000, "t"), []byte("last"),
	}
}

// limits are those that a store may have; noLimits are not.
func limits() []int { return []int{64, 65, 100, 1000, 65536, 1048575, 1048576} }

func noLimits() []int {
	return []int{63, 62, 32, 1, 0, -1, -63, -64, -65, -1048576, 1048577, 1048578, 2097152, 1<<31 - 1, math.MaxInt, math.MinInt, math.MinInt + 64}
}

func begun(t *testing.T, limit int) *store.Store {
	t.Helper()
	s, errno := store.New(limit)
	if errno != api.OK || s == nil {
		t.Fatalf("D1: New with room for %d: %d", limit, errno)
	}
	return s
}

func opened(t *testing.T, disk []byte, limit int) *store.Store {
	t.Helper()
	s, errno := store.Open(disk, limit)
	if errno != api.OK || s == nil {
		t.Fatalf("D1: Open of %d bytes with room for %d: %d", len(disk), limit, errno)
	}
	return s
}

// adds holds what Add answers.
func adds(t *testing.T, what string, s *store.Store, b []byte, want api.Errno) {
	t.Helper()
	if errno := s.Add(b); errno != want {
		t.Errorf("%s: Add of %d bytes: %d, want %d", what, len(b), errno, want)
	}
}

// holds tells whether a store has just these records, and just these bytes on its disk.
func holds(t *testing.T, what string, s *store.Store, records [][]byte, disk []byte) {
	t.Helper()
	hasRecords(t, what, s, records)
	if got := s.Disk(); !bytes.Equal(got, disk) {
		t.Errorf("%s: D4: the disk has %d bytes: %s, want %d: %s", what, len(got), short(got), len(disk), short(disk))
	}
}

func hasRecords(t *testing.T, what string, s *store.Store, records [][]byte) {
	t.Helper()
	if s.Len() != len(records) {
		t.Errorf("%s: D4: %d records, want %d", what, s.Len(), len(records))
	}
	for i, want := range records {
		if got, errno := s.Record(i); errno != api.OK || !bytes.Equal(got, want) {
			t.Errorf("%s: D4: record %d: %s, %d, want %s", what, i, short(got), errno, short(want))
		}
	}
	for _, i := range []int{-1, -2, len(records), len(records) + 1, math.MinInt, math.MaxInt, 1 << 32, 1<<32 - 1} {
		if got, errno := s.Record(i); errno != api.ErrRange || len(got) != 0 {
			t.Errorf("%s: D4: record %d of %d: %s, %d", what, i, len(records), short(got), errno)
		}
	}
}

// opensAs holds what Open makes of a disk: these records alone, with which it goes on as any store does.
func opensAs(t *testing.T, what string, disk []byte, records [][]byte) {
	t.Helper()
	limit := 1048576
	s := opened(t, disk, limit)
	holds(t, what, s, records, diskOf(records...))
	if room := limit - len(diskOf(records...)); room >= around+4 {
		all := append(slices.Clip(records), []byte("more"))
		adds(t, what, s, []byte("more"), api.OK)
		holds(t, what+", and one more", s, all, diskOf(all...))
	}
}

// short is the beginning and the end of bytes.
func short(b []byte) string {
	const hex = "0123456789abcdef"
	var s strings.Builder
	for i, c := range b {
		if i < 20 || i >= len(b)-20 {
			s.WriteByte(hex[c>>4])
			s.WriteByte(hex[c&15])
		} else if i == 20 {
			s.WriteString("..")
		}
	}
	return s.String()
}
