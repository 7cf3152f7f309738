package num_test

import (
	"bytes"
	"crypto/sha3"
	"math"
	"math/big"
	"testing"

	"mintvault/api"
	"mintvault/num"
)

// each goes through the kinds and their primes, as the document writes them.
func each(f func(kind api.Modulus, prime *big.Int)) {
	f(api.Prime, less(power(256), add(power(32), count(977))))
	gap, _ := new(big.Int).SetString("432420386565659656852420866394968145599", 10)
	f(api.Order, less(power(256), gap))
}

// noKinds are around those that are, and at the ends of what a kind can be.
func noKinds() []api.Modulus {
	return []api.Modulus{-1, 2, 3, 256, 1 << 32, math.MinInt, math.MaxInt}
}

func count(n int64) *big.Int      { return big.NewInt(n) }
func power(n uint) *big.Int       { return new(big.Int).Lsh(count(1), n) }
func add(a, b *big.Int) *big.Int  { return new(big.Int).Add(a, b) }
func less(a, b *big.Int) *big.Int { return new(big.Int).Sub(a, b) }
func of(n *big.Int) []byte        { return n.FillBytes(make([]byte, 32)) }

// some makes n bytes; other seeds make others.
func some(n int, seed string) []byte {
	return sha3.SumSHAKE128([]byte(seed), n)
}

// numbers are the edges of the kind, and ordinary ones.
func numbers(prime *big.Int) []*big.Int {
	l := []*big.Int{
		count(0), count(1), count(2), count(3), power(64), less(power(64), count(1)), power(128), power(255),
		less(prime, count(1)), less(prime, count(2)), new(big.Int).Rsh(prime, 1), less(power(256), prime),
	}
	for i := range 30 {
		l = append(l, new(big.Int).Mod(new(big.Int).SetBytes(some(32, string(rune('a'+i)))), prime))
	}
	return l
}

// noNumbers are too large, too long or too short.
func noNumbers(prime *big.Int) [][]byte {
	return [][]byte{
		nil, {}, {0}, make([]byte, 31), make([]byte, 33), make([]byte, 64), append([]byte{0}, of(count(1))...), append(of(count(1)), 0),
		of(prime), of(add(prime, count(1))), of(less(power(256), count(1))),
	}
}

func is(t *testing.T, what string, got []byte, errno api.Errno, want *big.Int) {
	t.Helper()
	if errno != api.OK || !bytes.Equal(got, of(want)) {
		t.Errorf("%s: %x, %d, want %x", what, got, errno, want)
	}
}

// fails also holds that an error comes alone (E4).
func fails[T []byte | [][]byte](t *testing.T, what string, got T, errno, want api.Errno) {
	t.Helper()
	if errno != want || len(got) != 0 {
		t.Errorf("%s: %x, %d, want %d", what, got, errno, want)
	}
}

type two struct {
	name string
	call func(api.Modulus, []byte, []byte) ([]byte, api.Errno)
	want func(z, a, b *big.Int) *big.Int
}

func twos() []two {
	return []two{{"Add", num.Add, (*big.Int).Add}, {"Sub", num.Sub, (*big.Int).Sub}, {"Mul", num.Mul, (*big.Int).Mul}}
}

// list makes n numbers below any prime.
func list(n int, seed string) [][]byte {
	l := make([][]byte, n)
	for i := range l {
		l[i] = append([]byte{byte(i % 255)}, some(31, seed+string(rune(i)))...)
	}
	return l
}

// guarded puts bytes into the middle of others, so that whatever is written beside them or over them shows.
type guarded struct {
	all    []byte
	before []byte
	b      []byte
}

func guard(b []byte) guarded {
	const room = 100
	all := some(len(b)+2*room, "around")
	copy(all[room:], b)
	return guarded{all, bytes.Clone(all), all[room : room+len(b)]}
}

func (g guarded) check(t *testing.T, what string) {
	t.Helper()
	if !bytes.Equal(g.all, g.before) {
		t.Errorf("E2: %s: what was handed in, or what lies around it, has changed", what)
	}
}

// spoil writes over an answer and all of its spare room.
func spoil(b []byte) {
	b = b[:cap(b)]
	for i := range b {
		b[i] ^= 0xa5
	}
}
