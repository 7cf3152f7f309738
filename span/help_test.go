package span_test

import (
	"bytes"
	"crypto/sha3"
	"math/big"
	"slices"
	"testing"

	"mintvault/api"
	"mintvault/group"
)

func count(n int64) *big.Int      { return big.NewInt(n) }
func power(n uint) *big.Int       { return new(big.Int).Lsh(count(1), n) }
func add(a, b *big.Int) *big.Int  { return new(big.Int).Add(a, b) }
func less(a, b *big.Int) *big.Int { return new(big.Int).Sub(a, b) }
func number(b []byte) *big.Int    { return new(big.Int).SetBytes(b) }

func order() *big.Int {
	gap, _ := new(big.Int).SetString("432420386565659656852420866394968145599", 10)
	return less(power(256), gap)
}

func mul(a, b *big.Int) *big.Int {
	n := new(big.Int).Mul(a, b)
	return n.Mod(n, order())
}

func inverse(a *big.Int) *big.Int { return new(big.Int).ModInverse(a, order()) }

func raised(a *big.Int, n int) *big.Int { return new(big.Int).Exp(a, count(int64(n)), order()) }

// whole is the number's 32 bytes, a scalar or not.
func whole(n *big.Int) []byte { return n.FillBytes(make([]byte, 32)) }

// of is the scalar that the number is modulo Order.
func of(n *big.Int) []byte { return whole(new(big.Int).Mod(n, order())) }

func allOf(list []*big.Int) [][]byte {
	var all [][]byte
	for _, n := range list {
		all = append(all, of(n))
	}
	return all
}

// some makes n bytes; other seeds make others.
func some(n int, seed string) []byte { return sha3.SumSHAKE128([]byte(seed), n) }

// ordinary is a scalar like most are.
func ordinary(seed string) *big.Int { return number(of(number(some(40, seed)))) }

// ordinaries is a list of such.
func ordinaries(n int, seed string) []*big.Int {
	var all []*big.Int
	for i := range n {
		all = append(all, ordinary(seed+string(rune('0'+i))))
	}
	return all
}

func zeros(n int) []*big.Int { return slices.Repeat([]*big.Int{count(0)}, n) }

func nothing() []byte { return make([]byte, 33) }

func ok(b []byte, errno api.Errno) []byte {
	if errno != api.OK {
		panic(errno)
	}
	return b
}

func times(n *big.Int, a []byte) []byte   { return ok(group.Times(of(n), a)) }
func public(x *big.Int) []byte            { return times(x, group.Base()) }
func commit(value, blind *big.Int) []byte { return ok(group.Commit(of(value), of(blind))) }
func hash(label string, b []byte) []byte  { return ok(group.HashTo(label, b)) }
func four(i int) []byte                   { return whole(count(int64(i)))[28:] }

func plus(points ...[]byte) []byte {
	all := nothing()
	for _, p := range points {
		all = ok(group.Plus(all, p))
	}
	return all
}

// sum is that of the points, each so many times.
func sum(n []*big.Int, points [][]byte) []byte { return ok(group.Sum(allOf(n), points)) }

func dot(a, b []*big.Int) *big.Int {
	all := count(0)
	for i := range a {
		all = add(all, mul(a[i], b[i]))
	}
	return all
}

// tag is S3's, by the library's hash.
func tag(label string, parts ...[]byte) []byte {
	h := sha3.New256()
	for _, part := range append([][]byte{[]byte(label)}, parts...) {
		h.Write(whole(count(int64(len(part))))[28:])
		h.Write(part)
	}
	return h.Sum(nil)
}

func stream(b []byte) *big.Int { return number(of(number(sha3.SumSHAKE256(b, 64)))) }

func chance(label string, parts ...[]byte) *big.Int { return stream(tag(label, parts...)) }

// talk is S4's log, by the library's hash.
type talk struct {
	state []byte
}

func newTalk(label string) *talk { return &talk{tag("log", []byte(label))} }

func (l *talk) say(label string, b []byte) { l.state = tag("say", l.state, []byte(label), b) }

func (l *talk) challenge() *big.Int {
	c := stream(tag("ask", l.state, []byte("challenge")))
	l.state = tag("asked", l.state, []byte("challenge"))
	return c
}

func noScalars() [][]byte {
	one := whole(count(1))
	return [][]byte{
		nil, {}, {1}, one[1:], make([]byte, 31), make([]byte, 33), append([]byte{0}, one...), append(bytes.Clone(one), 0), make([]byte, 64),
		whole(order()), whole(add(order(), count(1))), whole(add(order(), count(2))), whole(less(power(256), count(1))),
	}
}

// noPoints are of other lengths, with another first byte, with an x that is none, or without a point.
func noPoints() [][]byte {
	g := group.Base()
	return [][]byte{
		nil, {}, {2}, {0}, g[:32], g[1:], append(bytes.Clone(g), 0), append([]byte{0}, g...), make([]byte, 32), make([]byte, 34), make([]byte, 66),
		append(make([]byte, 32), 1), append([]byte{0}, g[1:]...), append([]byte{4}, g[1:]...), append([]byte{255}, g[1:]...),
		append([]byte{2}, whole(count(5))...), append([]byte{3}, whole(less(power(256), count(1)))...),
	}
}

// flipped differs from b in one bit.
func flipped(b []byte, bit int) []byte {
	other := bytes.Clone(b)
	other[bit/8] ^= 1 << (bit % 8)
	return other
}

// without is the list less an entry.
func without(list [][]byte, i int) [][]byte { return slices.Delete(slices.Clone(list), i, i+1) }

// with has another entry at one place.
func with(list [][]byte, i int, b []byte) [][]byte {
	list = slices.Clone(list)
	list[i] = b
	return list
}

func holds(t *testing.T, what string, got bool) {
	t.Helper()
	if !got {
		t.Errorf("%s: false", what)
	}
}

func wrong(t *testing.T, what string, got bool) {
	t.Helper()
	if got {
		t.Errorf("%s: true", what)
	}
}
