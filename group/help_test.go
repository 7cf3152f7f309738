package group_test

import (
	"bytes"
	"crypto/sha3"
	"encoding/hex"
	"math/big"
	"testing"

	"mintvault/api"
)

func count(n int64) *big.Int      { return big.NewInt(n) }
func power(n uint) *big.Int       { return new(big.Int).Lsh(count(1), n) }
func add(a, b *big.Int) *big.Int  { return new(big.Int).Add(a, b) }
func less(a, b *big.Int) *big.Int { return new(big.Int).Sub(a, b) }
func mul(a, b *big.Int) *big.Int  { return new(big.Int).Mul(a, b) }
func of(n *big.Int) []byte        { return n.FillBytes(make([]byte, 32)) }

func prime() *big.Int { return less(power(256), count(1<<32+977)) }

func order() *big.Int {
	gap, _ := new(big.Int).SetString("432420386565659656852420866394968145599", 10)
	return less(power(256), gap)
}

func inPrime(n *big.Int) *big.Int { return n.Mod(n, prime()) }

// pair is a point as the document writes it; nil is nothing.
type pair struct{ x, y *big.Int }

// on is the pair with this x and an even y; nil, if there is none.
func on(x *big.Int) *pair {
	y := new(big.Int).ModSqrt(inPrime(add(mul(mul(x, x), x), count(7))), prime())
	if y == nil {
		return nil
	}
	if y.Bit(0) == 1 {
		y.Sub(prime(), y)
	}
	return &pair{x, y}
}

func base() *pair {
	x, _ := new(big.Int).SetString("79be667ef9dcbbac55a06295ce870b07029bfcdb2dce28d959f2815b16f81798", 16)
	return on(x)
}

func (a *pair) minus() *pair {
	if a == nil {
		return nil
	}
	return &pair{a.x, less(prime(), a.y)}
}

// plus goes by the document's words.
func (a *pair) plus(b *pair) *pair {
	if a == nil || b == nil {
		if a == nil {
			return b
		}
		return a
	}
	rise, run := less(b.y, a.y), less(b.x, a.x)
	if run.Sign() == 0 {
		if rise.Sign() != 0 {
			return nil
		}
		rise, run = mul(count(3), mul(a.x, a.x)), mul(count(2), a.y)
	}
	s := mul(rise, new(big.Int).ModInverse(inPrime(run), prime()))
	x := inPrime(less(less(mul(s, s), a.x), b.x))
	return &pair{x, inPrime(less(mul(s, less(a.x, x)), a.y))}
}

func (a *pair) times(n *big.Int) *pair {
	var out *pair
	for i := n.BitLen() - 1; i >= 0; i-- {
		out = out.plus(out)
		if n.Bit(i) == 1 {
			out = out.plus(a)
		}
	}
	return out
}

func (a *pair) bytes() []byte {
	if a == nil {
		return make([]byte, 33)
	}
	return append([]byte{2 + byte(a.y.Bit(0))}, of(a.x)...)
}

// some makes n bytes; other seeds make others.
func some(n int, seed string) []byte {
	return sha3.SumSHAKE128([]byte(seed), n)
}

// scalar makes an ordinary one.
func scalar(seed string) *big.Int {
	return new(big.Int).Mod(new(big.Int).SetBytes(some(40, seed)), order())
}

// beside has the same y and another x: that times a number whose cube is 1.
func (a *pair) beside() *pair {
	third := new(big.Int).Div(prime(), count(3))
	return &pair{inPrime(mul(a.x, third.Exp(count(2), third, prime()))), a.y}
}

// pairs are nothing, the base, its opposite, one with the same y, others close to it, and ordinary ones.
func pairs() []*pair {
	g := base()
	all := []*pair{nil, g, g.minus(), g.beside(), g.times(count(2)), g.times(count(2)).minus(), g.beside().minus(), g.times(count(3)), on(count(1)), on(count(1)).minus()}
	for _, seed := range []string{"a", "b", "c", "d", "e", "f"} {
		all = append(all, g.times(scalar(seed)))
	}
	return all
}

// counts are the edges of scalars, and ordinary ones.
func counts() []*big.Int {
	var all []*big.Int
	for n := range int64(70) {
		all = append(all, count(n), less(order(), count(n+1)))
	}
	for n := uint(7); n < 256; n += 8 {
		all = append(all, power(n), less(power(n), count(1)), add(power(n), count(1)))
	}
	for _, seed := range []string{"1", "2", "3", "4", "5", "6"} {
		all = append(all, scalar(seed))
	}
	return append(all, new(big.Int).Rsh(order(), 1), less(power(256), add(power(129), count(1))))
}

func noScalars() [][]byte {
	return [][]byte{
		nil, {}, {1}, make([]byte, 31), make([]byte, 33), of(count(1))[1:], append([]byte{0}, of(count(1))...), append(of(count(1)), 0), make([]byte, 64),
		of(order()), of(add(order(), count(1))), of(prime()), of(less(power(256), count(1))),
	}
}

// noPoints are of other lengths, with another first byte, with an x that is none, or without a point.
func noPoints() [][]byte {
	g := base().bytes()
	all := [][]byte{
		nil, {}, {2}, {0}, g[:32], g[1:], append(bytes.Clone(g), 0), append([]byte{0}, g...), make([]byte, 32), make([]byte, 34), make([]byte, 65),
		append(make([]byte, 32), 1), append([]byte{0}, g[1:]...), append([]byte{1}, make([]byte, 32)...),
	}
	for _, mark := range []byte{2, 3} {
		for _, x := range []*big.Int{count(0), count(5), prime(), add(prime(), count(1)), add(prime(), count(2)), less(power(256), count(1))} {
			all = append(all, append([]byte{mark}, of(x)...))
		}
	}
	for _, mark := range []byte{1, 4, 5, 6, 7, 0x82, 0x83, 255} {
		all = append(all, append([]byte{mark}, g[1:]...))
	}
	return all
}

func is(t *testing.T, what string, got []byte, errno api.Errno, want *pair) {
	t.Helper()
	if errno != api.OK || !bytes.Equal(got, want.bytes()) {
		t.Errorf("%s: %x, %d, want %x", what, got, errno, want.bytes())
	}
}

// fails also holds that an error comes alone (E4).
func fails(t *testing.T, what string, got []byte, errno, want api.Errno) {
	t.Helper()
	if errno != want || len(got) != 0 {
		t.Errorf("%s: %x, %d, want %d", what, got, errno, want)
	}
}

func begins(t *testing.T, what string, got []byte, errno api.Errno, want string) {
	t.Helper()
	if h := hex.EncodeToString(got); errno != api.OK || len(h) != 66 || h[:len(want)] != want {
		t.Errorf("%s: %s, %d, want a beginning of %s", what, h, errno, want)
	}
}

// entries are so many scalars and points, and their sum.
func entries(n int, seed string) (scalars, points [][]byte, sum *pair) {
	all := new(big.Int)
	step := scalar(seed)
	a, times := base().times(step), step
	for i := range n {
		s := scalar(seed + string(rune(i)))
		scalars, points = append(scalars, of(s)), append(points, a.bytes())
		all.Add(all, mul(s, times))
		a, times = a.plus(base()), add(times, count(1))
	}
	return scalars, points, base().times(all.Mod(all, order()))
}

// tag is S3's, by the library's hash.
func tag(label string, parts ...[]byte) *big.Int {
	h := sha3.New256()
	for _, part := range append([][]byte{[]byte(label)}, parts...) {
		h.Write(count(int64(len(part))).FillBytes(make([]byte, 4)))
		h.Write(part)
	}
	return new(big.Int).SetBytes(h.Sum(nil))
}

// ofText is G4, and which of the numbers it was.
func ofText(label string, b []byte) (*pair, int) {
	for i := range 256 {
		x := tag("point "+label, b, []byte{byte(i)})
		if x.Cmp(prime()) >= 0 {
			continue
		}
		if a := on(x); a != nil {
			return a, i
		}
	}
	return base(), 256
}

// guarded puts bytes into the middle of others, so that whatever is written beside them or over them shows.
type guarded struct {
	all    []byte
	before []byte
	b      []byte
}

func guard(b []byte) guarded {
	const room = 100
	all := some(len(b)+2*room, "around")
	copy(all[room:], b)
	return guarded{all, bytes.Clone(all), all[room : room+len(b)]}
}

func (g guarded) check(t *testing.T, what string) {
	t.Helper()
	if !bytes.Equal(g.all, g.before) {
		t.Errorf("E2: %s: what was handed in, or what lies around it, has changed", what)
	}
}

// spoil writes over an answer and all of its spare room.
func spoil(b []byte) {
	b = b[:cap(b)]
	for i := range b {
		b[i] ^= 0xa5
	}
}
