package sigma_test

import (
	"bytes"
	"crypto/sha3"
	"math/big"
	"slices"
	"testing"

	"mintvault/api"
	"mintvault/group"
)

func count(n int64) *big.Int      { return big.NewInt(n) }
func power(n uint) *big.Int       { return new(big.Int).Lsh(count(1), n) }
func add(a, b *big.Int) *big.Int  { return new(big.Int).Add(a, b) }
func less(a, b *big.Int) *big.Int { return new(big.Int).Sub(a, b) }
func mul(a, b *big.Int) *big.Int  { return new(big.Int).Mul(a, b) }
func number(b []byte) *big.Int    { return new(big.Int).SetBytes(b) }

func order() *big.Int {
	gap, _ := new(big.Int).SetString("432420386565659656852420866394968145599", 10)
	return less(power(256), gap)
}

// whole is the number's 32 bytes, a scalar or not.
func whole(n *big.Int) []byte { return n.FillBytes(make([]byte, 32)) }

// of is the scalar that the number is modulo Order.
func of(n *big.Int) []byte { return whole(new(big.Int).Mod(n, order())) }

// some makes n bytes; other seeds make others.
func some(n int, seed string) []byte { return sha3.SumSHAKE128([]byte(seed), n) }

// ordinary is a scalar like most are.
func ordinary(seed string) *big.Int { return number(of(number(some(40, seed)))) }

func nothing() []byte { return make([]byte, 33) }

func ok(b []byte, errno api.Errno) []byte {
	if errno != api.OK {
		panic(errno)
	}
	return b
}

func times(n *big.Int, a []byte) []byte     { return ok(group.Times(of(n), a)) }
func public(x *big.Int) []byte              { return times(x, group.Base()) }
func opposite(a []byte) []byte              { return ok(group.Minus(a)) }
func commit(value, blind *big.Int) []byte   { return ok(group.Commit(of(value), of(blind))) }
func answer(k, c, x *big.Int) []byte        { return of(add(k, mul(c, x))) }
func join(parts ...[]byte) []byte           { return slices.Concat(parts...) }
func with(b []byte, n int, x []byte) []byte { return join(b[:n], x, b[n+len(x):]) }

// tag is S3's, by the library's hash.
func tag(label string, parts ...[]byte) []byte {
	h := sha3.New256()
	for _, part := range append([][]byte{[]byte(label)}, parts...) {
		h.Write(whole(count(int64(len(part))))[28:])
		h.Write(part)
	}
	return h.Sum(nil)
}

func stream(b []byte) *big.Int { return number(of(number(sha3.SumSHAKE256(b, 64)))) }

func chance(label string, parts ...[]byte) *big.Int { return stream(tag(label, parts...)) }

// challenge is that of a log of this label, to which each of said is said behind its label.
func challenge(label string, said ...[]byte) *big.Int {
	state := tag("log", []byte(label))
	for pair := range slices.Chunk(said, 2) {
		state = tag("say", state, pair[0], pair[1])
	}
	return stream(tag("ask", state, []byte("challenge")))
}

// secrets are the edges of those that may be, and ordinary ones.
func secrets() []*big.Int {
	return []*big.Int{count(1), count(2), less(order(), count(1)), less(order(), count(2)), power(255), ordinary("a"), ordinary("b")}
}

func texts() [][]byte {
	return [][]byte{nil, {}, {0}, {0, 0}, []byte("abc"), []byte("text"), some(32, "t"), some(65, "t"), some(135, "t"), some(136, "t"), some(5000, "t")}
}

// points are all sorts that are not nothing.
func points() [][]byte {
	h := ok(group.HashTo("value", nil))
	return [][]byte{group.Base(), opposite(group.Base()), public(count(2)), h, opposite(h), public(ordinary("p"))}
}

func noScalars() [][]byte {
	one := whole(count(1))
	return [][]byte{
		nil, {}, {1}, one[1:], make([]byte, 31), make([]byte, 33), append([]byte{0}, one...), append(bytes.Clone(one), 0), make([]byte, 64),
		whole(order()), whole(add(order(), count(1))), whole(add(order(), count(2))), whole(less(power(256), count(1))),
	}
}

// noPoints are of other lengths, with another first byte, with an x that is none, or without a point.
func noPoints() [][]byte {
	g := group.Base()
	all := [][]byte{
		nil, {}, {2}, {0}, g[:32], g[1:], append(bytes.Clone(g), 0), append([]byte{0}, g...), make([]byte, 32), make([]byte, 34), make([]byte, 66),
		append(make([]byte, 32), 1), append([]byte{0}, g[1:]...), append([]byte{1}, make([]byte, 32)...),
	}
	for _, mark := range []byte{2, 3} {
		for _, x := range []*big.Int{count(0), count(5), less(power(256), count(1<<32+977)), less(power(256), count(1))} {
			all = append(all, append([]byte{mark}, whole(x)...))
		}
	}
	for _, mark := range []byte{1, 4, 6, 0x82, 255} {
		all = append(all, append([]byte{mark}, g[1:]...))
	}
	return all
}

// flips are all bytes that differ from these in one bit.
func flips(b []byte) [][]byte {
	var all [][]byte
	for i := range 8 * len(b) {
		other := bytes.Clone(b)
		other[i/8] ^= 1 << (i % 8)
		all = append(all, other)
	}
	return all
}

func is(t *testing.T, what string, got []byte, errno api.Errno, want []byte) {
	t.Helper()
	if errno != api.OK || !bytes.Equal(got, want) {
		t.Errorf("%s: %x, %d, want %x", what, got, errno, want)
	}
}

// fails also holds that an error comes alone (E4).
func fails(t *testing.T, what string, got []byte, errno, want api.Errno) {
	t.Helper()
	if errno != want || len(got) != 0 {
		t.Errorf("%s: %x, %d, want %d", what, got, errno, want)
	}
}

func holds(t *testing.T, what string, got bool) {
	t.Helper()
	if !got {
		t.Errorf("%s: false", what)
	}
}

func wrong(t *testing.T, what string, got bool) {
	t.Helper()
	if got {
		t.Errorf("%s: true", what)
	}
}

// guarded puts bytes into the middle of others, so that whatever is written beside them or over them shows.
type guarded struct {
	all    []byte
	before []byte
	b      []byte
}

func guard(b []byte) guarded {
	const room = 100
	all := some(len(b)+2*room, "around")
	copy(all[room:], b)
	return guarded{all, bytes.Clone(all), all[room : room+len(b)]}
}

func (g guarded) check(t *testing.T, what string) {
	t.Helper()
	if !bytes.Equal(g.all, g.before) {
		t.Errorf("E2: %s: what was handed in, or what lies around it, has changed", what)
	}
}

// spoil writes over an answer and all of its spare room.
func spoil(b []byte) {
	b = b[:cap(b)]
	for i := range b {
		b[i] ^= 0xa5
	}
}
