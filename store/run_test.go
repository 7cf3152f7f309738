package store_test

import (
	"crypto/sha3"
	"encoding/binary"
	"strconv"
	"testing"

	"mintvault/api"
	"mintvault/store"
)

// told is a store as the document tells of it: it has what it answered OK for, and a disk.
type told struct {
	limit   int
	records [][]byte
	disk    []byte
	armed   bool
	left    int
	off     bool
}

func (d *told) arm(n int) { d.armed, d.left = n >= 0, n }

func (d *told) add(b []byte) api.Errno {
	if d.off {
		return api.ErrPower
	}
	if len(b) > most {
		return api.ErrLong
	}
	f := frame(uint64(len(d.records)), b)
	if len(d.disk)+len(f) > d.limit {
		return api.ErrFull
	}
	for _, c := range f {
		if d.armed && d.left == 0 {
			d.off = true
			return api.ErrPower
		}
		d.disk = append(d.disk, c)
		d.left--
	}
	d.records = append(d.records, b)
	return api.OK
}

// open drops what is no whole frame: what is behind the records.
func (d *told) open() {
	*d = told{limit: d.limit, records: d.records, disk: diskOf(d.records...)}
}

// A long run of calls, held against the document's words after each.
func TestRuns(t *testing.T) {
	for run := range 300 {
		h := sha3.NewSHAKE128()
		h.Write([]byte("run " + strconv.Itoa(run)))
		pick := func(n int) int {
			var b [8]byte
			h.Read(b[:])
			return int(binary.BigEndian.Uint64(b[:]) % uint64(n))
		}
		d := &told{limit: 64 + pick(400)}
		s := begun(t, d.limit)
		for range 60 {
			s = step(t, s, d, pick)
			holds(t, "D1 to D4: run "+strconv.Itoa(run), s, d.records, d.disk)
			if t.Failed() {
				return
			}
		}
	}
}

func step(t *testing.T, s *store.Store, d *told, pick func(int) int) *store.Store {
	t.Helper()
	switch pick(8) {
	case 0:
		n := pick(80) - 10
		s.Arm(n)
		d.arm(n)
	case 1:
		s = opened(t, s.Disk(), d.limit)
		d.open()
	case 2:
		b := make([]byte, 16380+pick(10))
		adds(t, "D2: a run", s, b, d.add(b))
	default:
		b := some(pick(40), strconv.Itoa(pick(1000)))
		adds(t, "D2: a run", s, b, d.add(b))
	}
	return s
}
