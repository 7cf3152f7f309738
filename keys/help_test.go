package keys_test

import (
	"bytes"
	"crypto/sha3"
	"encoding/binary"
	"math"
	"math/big"
	"strings"
	"testing"

	"mintvault/api"
	"mintvault/group"
)

// some makes n bytes; other seeds make others.
func some(n int, seed string) []byte { return sha3.SumSHAKE128([]byte(seed), n) }

// tag is Tag by the library's hash.
func tag(label string, parts ...[]byte) []byte {
	h := sha3.New256()
	for _, part := range append([][]byte{[]byte(label)}, parts...) {
		h.Write(binary.BigEndian.AppendUint32(nil, uint32(len(part))))
		h.Write(part)
	}
	return h.Sum(nil)
}

// derived is K1's, from the last number back to the seed.
func derived(seed []byte, label string, path ...uint32) []byte {
	return tag("key", child(seed, path), []byte(label))
}

func child(seed []byte, path []uint32) []byte {
	if len(path) == 0 {
		return seed
	}
	last := len(path) - 1
	return tag("child", child(seed, path[:last]), binary.BigEndian.AppendUint32(nil, path[last]))
}

func order() *big.Int {
	gap, _ := new(big.Int).SetString("432420386565659656852420866394968145599", 10)
	return gap.Sub(new(big.Int).Lsh(big.NewInt(1), 256), gap)
}

// scalarOf is K2's, by the library's numbers.
func scalarOf(b []byte) []byte {
	n := new(big.Int).SetBytes(sha3.SumSHAKE256(b, 64))
	return n.Mod(n, order()).FillBytes(make([]byte, 32))
}

func times(n []byte) []byte {
	b, errno := group.Times(n, group.Base())
	if errno != api.OK {
		panic(errno)
	}
	return b
}

func seeds() [][]byte {
	return [][]byte{make([]byte, 32), bytes.Repeat([]byte{7}, 32), bytes.Repeat([]byte{255}, 32), some(32, "seed"), some(32, "other seed")}
}

func noSeeds() [][]byte {
	return [][]byte{nil, {}, {0}, make([]byte, 31), some(31, "seed"), make([]byte, 33), some(33, "seed"), make([]byte, 16), make([]byte, 64), some(5000, "seed")}
}

// labels are empty, short and long, and not all of them UTF-8.
func labels() []string {
	return []string{"", "token", "mint", "key", "child", "\x00", "\xff\xfe", "a\xc3", "\xed\xa0\x80", "ä€", strings.Repeat("x", 135), strings.Repeat("x", 136), strings.Repeat("label", 20000), strings.Repeat("\xff", 300)}
}

func paths() [][]uint32 {
	all := [][]uint32{nil, {}, {0}, {1}, {math.MaxUint32}, {1 << 31}, {0x01020304}, {0, 0}, {0, 1}, {1, 0}, {math.MaxUint32, 0}, {256, 65536, 1 << 24}}
	var long []uint32
	for i := range uint32(16) {
		long = append(long, i*0x01234567)
	}
	return append(all, long[:15], long, make([]uint32, 15), make([]uint32, 16), filled(16))
}

func longPaths() [][]uint32 {
	return [][]uint32{make([]uint32, 17), filled(17), make([]uint32, 18), make([]uint32, 32), filled(5000)}
}

// filled are n times the highest number.
func filled(n int) []uint32 {
	l := make([]uint32, n)
	for i := range l {
		l[i] = math.MaxUint32
	}
	return l
}

func numbers() []uint32 { return []uint32{0, 1, 9, 256, 1 << 31, math.MaxUint32} }

// amounts are the denominations, written out.
func amounts() []uint64 {
	return []uint64{1, 2, 4, 8, 16, 32, 64, 128, 256, 512, 1024, 2048, 4096, 8192, 16384, 32768, 65536, 131072, 262144, 524288}
}

// noAmounts are the neighbours of all powers of two, and those that are too large.
func noAmounts() []uint64 {
	all := []uint64{0, 3, 5, 6, 7, 9, 10, 100, 524287, 524289, 1048575, 1048576, 1048577, 1 << 63, 1<<63 + 1, 1<<63 - 1, math.MaxUint64, 1<<32 + 1}
	for i := 2; i < 64; i++ {
		all = append(all, 1<<i-1, 1<<i+1)
	}
	for i := 20; i < 64; i++ {
		all = append(all, 1<<i)
	}
	return all
}

func is(t *testing.T, what string, got []byte, errno api.Errno, want []byte) {
	t.Helper()
	if errno != api.OK || !bytes.Equal(got, want) {
		t.Errorf("%s: %x, %d, want %x", what, got, errno, want)
	}
}

// fails also holds that an error comes alone (E4).
func fails[T []byte | []uint64](t *testing.T, what string, got T, errno, want api.Errno) {
	t.Helper()
	if errno != want || len(got) != 0 {
		t.Errorf("%s: %x, %d, want %d", what, got, errno, want)
	}
}
