package store_test

import (
	"bytes"
	"encoding/binary"
	"slices"
	"strconv"
	"testing"

	"mintvault/api"
	"mintvault/store"
)

// A store with a limit has room for just so many bytes, however it came about.
func TestLimits(t *testing.T) {
	for _, limit := range limits() {
		for _, s := range []*store.Store{begun(t, limit), opened(t, nil, limit), opened(t, []byte{}, limit), opened(t, make([]byte, limit), limit)} {
			holds(t, "D1: nothing yet", s, nil, nil)
			fill(t, s, limit)
			if n := len(s.Disk()); n != limit {
				t.Errorf("D1: %d bytes of %d are used", n, limit)
			}
		}
	}
}

// fill writes till there is no byte left, and asks ahead of the last record for one that is a byte too long.
func fill(t *testing.T, s *store.Store, limit int) {
	t.Helper()
	left := limit - len(s.Disk())
	for left > most+2*around {
		adds(t, "D2: filling", s, make([]byte, most-around), api.OK)
		left -= most
	}
	if left > most+around {
		adds(t, "D2: filling", s, nil, api.OK)
		left -= around
	}
	if left-around+1 <= most {
		adds(t, "D2: a byte too many", s, make([]byte, left-around+1), api.ErrFull)
	}
	adds(t, "D2: just room", s, make([]byte, left-around), api.OK)
	adds(t, "D2: no room at all", s, nil, api.ErrFull)
}

func TestWrongLimits(t *testing.T) {
	right := diskOf(texts("a", "b")...)
	for _, limit := range noLimits() {
		if s, errno := store.New(limit); s != nil || errno != api.ErrRange {
			t.Errorf("D1: New with room for %d: %v, %d", limit, s, errno)
		}
		for _, disk := range [][]byte{nil, {}, right, make([]byte, 63), make([]byte, 65), make([]byte, 1048577), make([]byte, 1048580)} {
			if s, errno := store.Open(disk, limit); s != nil || errno != api.ErrRange {
				t.Errorf("D1: Open of %d bytes with room for %d: %v, %d", len(disk), limit, s, errno)
			}
		}
	}
}

// full are records whose frames have just so many bytes.
func full(limit int) [][]byte {
	var all [][]byte
	for ; limit > most+2*around; limit -= most {
		all = append(all, some(most-around, strconv.Itoa(limit)))
	}
	if limit > most+around {
		all, limit = append(all, nil), limit-around
	}
	return append(all, some(limit-around, "the last"))
}

func TestDisksAsLongAsTheLimit(t *testing.T) {
	for _, limit := range limits() {
		records := full(limit)
		disk := diskOf(records...)
		if len(disk) != limit {
			t.Fatalf("the test's disk has %d bytes, want %d", len(disk), limit)
		}
		s := opened(t, disk, limit)
		holds(t, "D1: just as many bytes", s, records, disk)
		adds(t, "D2: an opened store that is full", s, nil, api.ErrFull)
		holds(t, "D1: other bytes", opened(t, make([]byte, limit), limit), nil, nil)
		for _, long := range [][]byte{append(disk, 0), make([]byte, limit+1), make([]byte, limit+16396), make([]byte, 2*limit)} {
			if s, errno := store.Open(long, limit); s != nil || errno != api.ErrLong {
				t.Errorf("D1: Open of %d bytes with room for %d: %v, %d", len(long), limit, s, errno)
			}
		}
	}
}

func TestOpenOfWholeDisks(t *testing.T) {
	all := records()
	for n := range len(all) + 1 {
		opensAs(t, "D1: a whole disk", diskOf(all[:n]...), all[:n])
	}
}

// wholeIn is how many of the records' frames lie in the first n bytes.
func wholeIn(n int, records [][]byte) int {
	whole := 0
	for whole < len(records) && len(diskOf(records[:whole+1]...)) <= n {
		whole++
	}
	return whole
}

func TestOpenOfDisksThatEndWithinAFrame(t *testing.T) {
	all := texts("one", "", "three and more", "4")
	disk := diskOf(all...)
	for n := range len(disk) + 1 {
		want := all[:wholeIn(n, all)]
		opensAs(t, "D1: a disk that ends at byte "+strconv.Itoa(n), disk[:n], want)
		opensAs(t, "D1: zeros from byte "+strconv.Itoa(n), append(bytes.Clone(disk[:n]), make([]byte, len(disk)-n)...), zeroed(disk, n, all))
	}
}

// zeroed are the records that are left where all is 0 from byte n on: a frame may end with zeros of its own.
func zeroed(disk []byte, n int, all [][]byte) [][]byte {
	whole := wholeIn(n, all)
	for whole < len(all) {
		next := diskOf(all[:whole+1]...)
		if slices.ContainsFunc(next[min(n, len(next)):], func(b byte) bool { return b != 0 }) {
			break
		}
		whole++
	}
	return all[:whole]
}

func TestOpenWithAWrongBit(t *testing.T) {
	all := texts("a", "", "bcd", "e")
	disk := diskOf(all...)
	for i := range disk {
		for bit := range 8 {
			wrong := bytes.Clone(disk)
			wrong[i] ^= 1 << bit
			opensAs(t, "D1: a wrong bit in byte "+strconv.Itoa(i), wrong, all[:wholeIn(i, all)])
		}
	}
}

// Whatever lies at the place of a frame, a right one behind it does not count.
func TestOpenWithAWrongFrame(t *testing.T) {
	all := texts("a", "bc")
	start, next := diskOf(all...), []byte("next")
	for what, wrong := range map[string][]byte{
		"the number ahead":   frame(1, next),
		"the first number":   frame(0, next),
		"the number behind":  frame(3, next),
		"a number far off":   frame(1<<32+2, next),
		"another far off":    frame(1<<63+2, next),
		"256 more":           frame(258, next),
		"a check of zeros":   slices.Concat([]byte{0, 0, 0, 4}, next, make([]byte, 8)),
		"another label":      slices.Concat([]byte{0, 0, 0, 4}, next, tag("log", binary.BigEndian.AppendUint64(nil, 2), next)[:8]),
		"a short number":     slices.Concat([]byte{0, 0, 0, 4}, next, tag("frame", []byte{0, 0, 0, 2}, next)[:8]),
		"the check's end":    slices.Concat([]byte{0, 0, 0, 4}, next, tag("frame", binary.BigEndian.AppendUint64(nil, 2), next)[24:]),
		"the lowest first":   slices.Concat([]byte{4, 0, 0, 0}, next, tag("frame", binary.BigEndian.AppendUint64(nil, 2), next)[:8]),
		"a number as such":   slices.Concat([]byte{0, 0, 0, 4}, next, tag("frame", []byte{2, 0, 0, 0, 0, 0, 0, 0}, next)[:8]),
		"a byte ahead of it": append([]byte{0}, frame(2, next)...),
		"four bytes ahead":   append([]byte{0, 0, 0, 0}, frame(2, next)...),
		"the check first":    slices.Concat([]byte{0, 0, 0, 4}, tag("frame", binary.BigEndian.AppendUint64(nil, 2), next)[:8], next),
		"other bytes":        some(100, "other"),
		"zeros":              make([]byte, 100),
		"all ones":           bytes.Repeat([]byte{255}, 100),
	} {
		for _, behind := range [][]byte{nil, frame(2, next), frame(3, next), slices.Concat(frame(2, next), frame(3, nil)), some(50, "behind")} {
			opensAs(t, "D1: "+what, slices.Concat(start, wrong, behind), all)
		}
	}
	opensAs(t, "D1: a right one", append(start, frame(2, next)...), append(all, next))
}

func TestOpenOfLongRecords(t *testing.T) {
	for _, ahead := range [][][]byte{nil, texts("a"), texts("a", "")} {
		number := uint64(len(ahead))
		for n := most - 2; n <= most+2; n++ {
			r := some(n, "long")
			disk := slices.Concat(diskOf(ahead...), frame(number, r), frame(number+1, []byte("behind")))
			want := ahead
			if n <= most {
				want = append(slices.Clip(ahead), r, []byte("behind"))
			}
			opensAs(t, "D1: a record of "+strconv.Itoa(n), disk, want)
		}
		for _, n := range []int{16386, 16640, 32768, 65535, 65536, 65537, 65540, 1<<17 + 1, 1 << 18} {
			disk := slices.Concat(diskOf(ahead...), frame(number, some(n, "long")), frame(number, nil))
			opensAs(t, "D1: a record of "+strconv.Itoa(n), disk, ahead)
		}
	}
}

// A length that no disk has room for is wrong, whatever it would be with 12 more, or with a bit for its sign.
func TestOpenWithAnyLength(t *testing.T) {
	for _, n := range []uint32{1, 2, 3, 5, 255, 256, 16383, 16384, 16385, 1 << 20, 1 << 24, 1<<31 - 12, 1<<31 - 1, 1 << 31, 1<<31 + 1, 1<<32 - 13, 1<<32 - 12, 1<<32 - 11, 1<<32 - 9, 1<<32 - 8, 1<<32 - 5, 1<<32 - 4, 1<<32 - 3, 4294967295} {
		for _, behind := range [][]byte{nil, {0}, frame(0, nil)[4:], frame(0, []byte("four"))[4:], make([]byte, 8), make([]byte, 12), make([]byte, 40000), some(40000, "any")} {
			opensAs(t, "D1: a length of "+strconv.FormatUint(uint64(n), 10), append(binary.BigEndian.AppendUint32(nil, n), behind...), nil)
			opensAs(t, "D1: a length behind", slices.Concat(frame(0, []byte("a")), binary.BigEndian.AppendUint32(nil, n), behind), texts("a"))
		}
	}
}

func TestOpenOfAnyBytes(t *testing.T) {
	for n := range 200 {
		opensAs(t, "D1: zeros", make([]byte, n), nil)
		opensAs(t, "D1: ones", bytes.Repeat([]byte{255}, n), nil)
		opensAs(t, "D1: any bytes", some(n, strconv.Itoa(n)), nil)
	}
	opensAs(t, "D1: many zeros", make([]byte, 1048576), nil)
	opensAs(t, "D1: many bytes", some(1048576, "many"), nil)
}

// A record that is a disk itself is a record.
func TestOpenOfDisksInRecords(t *testing.T) {
	inner := diskOf(texts("a", "b")...)
	opensAs(t, "D1: a disk in a record", frame(0, inner), [][]byte{inner})
	opensAs(t, "D1: a disk behind a record", append(frame(0, inner), inner...), [][]byte{inner})
}

// Numbers of more than one byte count as a whole.
func TestOpenOfManyRecords(t *testing.T) {
	const many = 70000
	var want [][]byte
	var disk []byte
	for i := range many {
		want = append(want, []byte{byte(i)}[:i%2])
		disk = append(disk, frame(uint64(i), want[i])...)
	}
	opensAs(t, "D1: many records", disk, want)
	s := begun(t, 1048576)
	for _, r := range want {
		if errno := s.Add(r); errno != api.OK {
			t.Fatalf("D2: many records: %d", errno)
		}
	}
	holds(t, "D2: many records", s, want, disk)
}
