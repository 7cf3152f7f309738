package store_test

import (
	"math"
	"slices"
	"strconv"
	"testing"

	"mintvault/api"
	"mintvault/store"
)

// stores are one that New and one that Open has given, with the same records.
func stores(t *testing.T, limit int, records ...[]byte) []*store.Store {
	t.Helper()
	s := begun(t, limit)
	for _, r := range records {
		adds(t, "D2: ahead", s, r, api.OK)
	}
	return []*store.Store{s, opened(t, diskOf(records...), limit)}
}

// isOff holds that the power is off, and stays so whatever is asked, and that nothing is written any more.
func isOff(t *testing.T, what string, s *store.Store, records [][]byte, disk []byte) {
	t.Helper()
	for _, n := range []int{-1, 0, 1, 12, 1000, math.MaxInt, math.MinInt} {
		s.Arm(n)
		for _, b := range [][]byte{nil, []byte("abc"), make([]byte, 16384), make([]byte, 16385)} {
			adds(t, what+", off", s, b, api.ErrPower)
		}
	}
	holds(t, what+", off", s, records, disk)
	opensAs(t, what+", opened again", s.Disk(), records)
}

func TestPowerGoesBehindEachByte(t *testing.T) {
	for _, ahead := range [][][]byte{nil, texts("first"), texts("", "second", "third")} {
		for _, r := range append(texts("", "a", "record"), some(260, "r")) {
			whole := frame(uint64(len(ahead)), r)
			for n := range whole {
				for _, s := range stores(t, 1000, ahead...) {
					what := "D2: with " + strconv.Itoa(n) + " of " + strconv.Itoa(len(whole)) + " bytes"
					s.Arm(n)
					holds(t, "D3: armed", s, ahead, diskOf(ahead...))
					adds(t, what, s, r, api.ErrPower)
					isOff(t, what, s, ahead, slices.Concat(diskOf(ahead...), whole[:n]))
				}
			}
		}
	}
}

// With a frame's bytes and more it is written; what is left counts for the next one.
func TestPowerHoldsForAWholeFrame(t *testing.T) {
	for _, r := range texts("", "a", "record") {
		size := len(r) + around
		for more := range 40 {
			for _, s := range stores(t, 1000, []byte("ahead")) {
				all := [][]byte{[]byte("ahead"), r}
				s.Arm(size + more)
				adds(t, "D3: enough for one", s, r, api.OK)
				holds(t, "D3: enough for one", s, all, diskOf(all...))
				second := frame(2, []byte("the next"))
				if more < len(second) {
					adds(t, "D3: not enough for two", s, []byte("the next"), api.ErrPower)
					isOff(t, "D3: not enough for two", s, all, slices.Concat(diskOf(all...), second[:more]))
					continue
				}
				all = append(all, []byte("the next"))
				adds(t, "D3: enough for two", s, []byte("the next"), api.OK)
				holds(t, "D3: enough for two", s, all, diskOf(all...))
			}
		}
	}
}

func TestPowerOfTheLongestRecord(t *testing.T) {
	r := some(16384, "longest")
	for _, n := range []int{0, 1, 4, 5, 16383, 16384, 16387, 16388, 16389, 16395} {
		s := begun(t, 65536)
		s.Arm(n)
		adds(t, "D2: the longest", s, r, api.ErrPower)
		isOff(t, "D2: the longest", s, nil, frame(0, r)[:n])
	}
	for _, n := range []int{16396, 16397, 65536} {
		s := begun(t, 65536)
		s.Arm(n)
		adds(t, "D2: the longest", s, r, api.OK)
		holds(t, "D2: the longest", s, [][]byte{r}, frame(0, r))
	}
}

// With a number below 0, and with none, as many bytes reach the disk as it has room for.
func TestAnyNumberOfBytes(t *testing.T) {
	for _, limit := range limits() {
		for _, n := range []int{-1, -2, -12, -64, math.MinInt32, math.MinInt} {
			for _, s := range stores(t, limit, []byte("ahead")) {
				s.Arm(3)
				s.Arm(n)
				fill(t, s, limit)
			}
		}
		s := begun(t, limit)
		s.Arm(limit)
		fill(t, s, limit)
		s = begun(t, limit)
		s.Arm(math.MaxInt)
		fill(t, s, limit)
	}
}

// Arm counts from then on, whatever was armed ahead of it.
func TestArmAgain(t *testing.T) {
	for _, first := range []int{0, 5, 27, 1000, -1} {
		for n := range 30 {
			s := begun(t, 1000)
			s.Arm(40)
			adds(t, "D3: ahead", s, []byte("ahead"), api.OK)
			s.Arm(first)
			s.Arm(n)
			all, next := texts("ahead"), frame(1, []byte("abc"))
			if n < len(next) {
				adds(t, "D3: armed again", s, []byte("abc"), api.ErrPower)
				isOff(t, "D3: armed again", s, all, slices.Concat(diskOf(all...), next[:n]))
				continue
			}
			adds(t, "D3: armed again", s, []byte("abc"), api.OK)
			s.Arm(-1)
			adds(t, "D3: any number", s, make([]byte, 500), api.OK)
			all = append(all, []byte("abc"), make([]byte, 500))
			holds(t, "D3: any number", s, all, diskOf(all...))
		}
	}
}

// The power goes while something is written, not ahead of it: with no byte left it is still on.
func TestPowerIsOnTillSomethingIsWritten(t *testing.T) {
	for _, s := range stores(t, 100, []byte("ahead")) {
		s.Arm(0)
		adds(t, "D2: no room", s, make([]byte, 100), api.ErrFull)
		s.Arm(15)
		adds(t, "D3: just a frame", s, []byte("abc"), api.OK)
		adds(t, "D2: too long", s, make([]byte, 16385), api.ErrLong)
		s.Arm(-1)
		adds(t, "D3: any number", s, []byte("def"), api.OK)
		all := texts("ahead", "abc", "def")
		holds(t, "D3: still on", s, all, diskOf(all...))
	}
}

// A record that is refused uses up none of the bytes.
func TestArmAheadOfARefusal(t *testing.T) {
	for n := range 30 {
		for _, s := range stores(t, 64, []byte("ahead")) {
			s.Arm(n)
			adds(t, "D2: too long", s, make([]byte, 16385), api.ErrLong)
			adds(t, "D2: no room", s, make([]byte, 36), api.ErrFull)
			adds(t, "D2: no room", s, make([]byte, 16384), api.ErrFull)
			all, next := texts("ahead"), frame(1, []byte("abc"))
			holds(t, "D2: refused", s, all, diskOf(all...))
			if n < len(next) {
				adds(t, "D3: behind a refusal", s, []byte("abc"), api.ErrPower)
				isOff(t, "D3: behind a refusal", s, all, slices.Concat(diskOf(all...), next[:n]))
				continue
			}
			adds(t, "D3: behind a refusal", s, []byte("abc"), api.OK)
			all = append(all, []byte("abc"))
			holds(t, "D3: behind a refusal", s, all, diskOf(all...))
		}
	}
}

// A store that is opened has its power, and no number of bytes, whatever the one was told that wrote the disk.
func TestOpenedAgainAfterThePowerWent(t *testing.T) {
	s := begun(t, 64)
	s.Arm(20)
	adds(t, "D2: first", s, []byte("abc"), api.OK)
	adds(t, "D2: second", s, []byte("def"), api.ErrPower)
	o := opened(t, s.Disk(), 64)
	holds(t, "D4: opened again", o, texts("abc"), diskOf(texts("abc")...))
	fill(t, o, 64)
	isOff(t, "D2: the one ahead", s, texts("abc"), slices.Concat(diskOf(texts("abc")...), frame(1, []byte("def"))[:5]))
}
