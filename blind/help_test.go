package blind_test

import (
	"bytes"
	"crypto/sha3"
	"math/big"
	"slices"
	"testing"

	"mintvault/api"
	"mintvault/group"
)

func count(n int64) *big.Int      { return big.NewInt(n) }
func power(n uint) *big.Int       { return new(big.Int).Lsh(count(1), n) }
func add(a, b *big.Int) *big.Int  { return new(big.Int).Add(a, b) }
func less(a, b *big.Int) *big.Int { return new(big.Int).Sub(a, b) }
func mul(a, b *big.Int) *big.Int  { return new(big.Int).Mul(a, b) }
func number(b []byte) *big.Int    { return new(big.Int).SetBytes(b) }

func order() *big.Int {
	gap, _ := new(big.Int).SetString("432420386565659656852420866394968145599", 10)
	return less(power(256), gap)
}

// whole is the number's 32 bytes, a scalar or not.
func whole(n *big.Int) []byte { return n.FillBytes(make([]byte, 32)) }

// of is the scalar that the number is modulo Order.
func of(n *big.Int) []byte { return whole(new(big.Int).Mod(n, order())) }

// some makes n bytes; other seeds make others.
func some(n int, seed string) []byte { return sha3.SumSHAKE128([]byte(seed), n) }

// ordinary is a scalar like most are.
func ordinary(seed string) *big.Int { return number(of(number(some(40, seed)))) }

func nothing() []byte { return make([]byte, 33) }

func ok(b []byte, errno api.Errno) []byte {
	if errno != api.OK {
		panic(errno)
	}
	return b
}

func times(n *big.Int, a []byte) []byte { return ok(group.Times(of(n), a)) }
func public(key *big.Int) []byte        { return times(key, group.Base()) }
func opposite(a []byte) []byte          { return ok(group.Minus(a)) }
func plus(a, b []byte) []byte           { return ok(group.Plus(a, b)) }

// tokenPoint is Y; of secrets that are none, too.
func tokenPoint(secret []byte) []byte { return ok(group.HashTo("token", secret)) }

// hiddenBy is Y and r times G.
func hiddenBy(r *big.Int, secret []byte) []byte { return plus(tokenPoint(secret), public(r)) }

// keys are the edges of those that may be, and ordinary ones.
func keys() []*big.Int {
	return []*big.Int{count(1), count(2), less(order(), count(1)), less(order(), count(2)), power(255), ordinary("key"), ordinary("other key")}
}

// scalars are 0, too.
func scalars() []*big.Int { return append(keys(), count(0)) }

// secrets have all lengths that they may have, and bytes of all sorts.
func secrets() [][]byte {
	all := [][]byte{{0}, {1}, {255}, []byte("a"), []byte("token"), make([]byte, 32), make([]byte, 33), make([]byte, 64), bytes.Repeat([]byte{255}, 64)}
	for n := 1; n <= 64; n++ {
		all = append(all, some(n, "secret"))
	}
	return all
}

// few are the shortest and the longest of them, and one between.
func few() [][]byte { return [][]byte{{0}, some(32, "secret"), some(64, "secret")} }

func noSecrets() [][]byte {
	return [][]byte{nil, {}, make([]byte, 65), some(65, "secret"), some(66, "secret"), some(128, "secret"), some(5000, "secret")}
}

// points are all sorts that are not nothing.
func points() [][]byte {
	h := ok(group.HashTo("value", nil))
	return [][]byte{group.Base(), opposite(group.Base()), public(count(2)), h, opposite(h), tokenPoint([]byte("a")), public(ordinary("p"))}
}

func noScalars() [][]byte {
	one := whole(count(1))
	return [][]byte{
		nil, {}, {1}, one[1:], make([]byte, 31), make([]byte, 33), append([]byte{0}, one...), append(bytes.Clone(one), 0), make([]byte, 64),
		whole(order()), whole(add(order(), count(1))), whole(add(order(), count(2))), whole(less(power(256), count(1))),
	}
}

func noKeys() [][]byte { return append(noScalars(), make([]byte, 32)) }

// noPoints are of other lengths, with another first byte, with an x that is none, or without a point.
func noPoints() [][]byte {
	g := group.Base()
	all := [][]byte{
		nil, {}, {2}, {0}, g[:32], g[1:], append(bytes.Clone(g), 0), append([]byte{0}, g...), make([]byte, 32), make([]byte, 34), make([]byte, 66),
		append(make([]byte, 32), 1), append([]byte{0}, g[1:]...), append([]byte{1}, make([]byte, 32)...),
	}
	for _, mark := range []byte{2, 3} {
		for _, x := range []*big.Int{count(0), count(5), less(power(256), count(1<<32+977)), less(power(256), count(1))} {
			all = append(all, append([]byte{mark}, whole(x)...))
		}
	}
	for _, mark := range []byte{1, 4, 6, 0x82, 255} {
		all = append(all, append([]byte{mark}, g[1:]...))
	}
	return all
}

func nothingOrNoPoints() [][]byte { return append(noPoints(), nothing()) }

// flips are all bytes that differ from these in one bit.
func flips(b []byte) [][]byte {
	var all [][]byte
	for i := range 8 * len(b) {
		other := bytes.Clone(b)
		other[i/8] ^= 1 << (i % 8)
		all = append(all, other)
	}
	return all
}

// misfits are bytes of other lengths that have much in common with these.
func misfits(b []byte) [][]byte {
	return [][]byte{nil, {}, b[:1], b[:len(b)-1], b[1:], append(bytes.Clone(b), 0), append([]byte{0}, b...), slices.Concat(b, b)}
}

func is(t *testing.T, what string, got []byte, errno api.Errno, want []byte) {
	t.Helper()
	if errno != api.OK || !bytes.Equal(got, want) {
		t.Errorf("%s: %x, %d, want %x", what, got, errno, want)
	}
}

// fails also holds that an error comes alone (E4).
func fails(t *testing.T, what string, got []byte, errno, want api.Errno) {
	t.Helper()
	if errno != want || len(got) != 0 {
		t.Errorf("%s: %x, %d, want %d", what, got, errno, want)
	}
}

func holds(t *testing.T, what string, got bool) {
	t.Helper()
	if !got {
		t.Errorf("%s: false", what)
	}
}

func wrong(t *testing.T, what string, got bool) {
	t.Helper()
	if got {
		t.Errorf("%s: true", what)
	}
}
