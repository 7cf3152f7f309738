package scalar_test

import (
	"bytes"
	"crypto/sha3"
	"math/big"
	"testing"

	"mintvault/scalar"
)

func count(n int64) *big.Int { return big.NewInt(n) }

func power(n uint) *big.Int { return new(big.Int).Lsh(count(1), n) }

func order() *big.Int {
	gap, _ := new(big.Int).SetString("432420386565659656852420866394968145599", 10)
	return gap.Sub(power(256), gap)
}

func less(n int64) *big.Int { return new(big.Int).Sub(order(), count(n)) }

// of is the number's 32 bytes, modulo Order.
func of(n *big.Int) []byte { return new(big.Int).Mod(n, order()).FillBytes(make([]byte, 32)) }

func read(t *testing.T, n *big.Int) scalar.Scalar {
	t.Helper()
	s, ok := scalar.Read(of(n))
	if !ok {
		t.Fatalf("%x is a scalar", n)
	}
	return s
}

// edges are the lowest and the highest scalars, and ordinary ones.
func edges() []*big.Int {
	all := []*big.Int{count(0), count(1), count(2), less(1), less(2), power(255), power(64), new(big.Int).Rsh(order(), 1)}
	for _, seed := range []string{"a", "b", "c"} {
		n := new(big.Int).SetBytes(sha3.SumSHAKE128([]byte(seed), 40))
		all = append(all, n.Mod(n, order()))
	}
	return all
}

func same(t *testing.T, what string, got scalar.Scalar, want *big.Int) {
	t.Helper()
	if !bytes.Equal(got.Bytes(), of(want)) {
		t.Errorf("%s: %x, want %x", what, got.Bytes(), of(want))
	}
}

func TestReckoning(t *testing.T) {
	for _, a := range edges() {
		x := read(t, a)
		same(t, "Bytes", x, a)
		same(t, "Opposite", x.Opposite(), new(big.Int).Neg(a))
		inverse := new(big.Int).ModInverse(a, order())
		if inverse == nil {
			inverse = count(0)
		}
		same(t, "Inverse", x.Inverse(), inverse)
		for _, b := range edges() {
			y := read(t, b)
			same(t, "Plus", x.Plus(y), new(big.Int).Add(a, b))
			same(t, "Minus", x.Minus(y), new(big.Int).Sub(a, b))
			same(t, "Times", x.Times(y), new(big.Int).Mul(a, b))
			if (x == y) != (a.Cmp(b) == 0) {
				t.Errorf("%x and %x: %v", a, b, x == y)
			}
		}
	}
}

func TestZero(t *testing.T) {
	if read(t, count(0)) != (scalar.Scalar{}) || read(t, count(1)) == (scalar.Scalar{}) {
		t.Error("Scalar{} is 0, and 0 alone")
	}
}

func TestOf(t *testing.T) {
	for _, n := range []uint64{0, 1, 2, 255, 1 << 63, 1<<64 - 1} {
		same(t, "Of", scalar.Of(n), new(big.Int).SetUint64(n))
	}
}

func TestReadOfNone(t *testing.T) {
	none := [][]byte{nil, {}, {1}, make([]byte, 31), make([]byte, 33), make([]byte, 64), bytes.Repeat([]byte{255}, 32)}
	for n := range int64(3) {
		none = append(none, new(big.Int).Add(order(), count(n)).Bytes())
	}
	for _, b := range none {
		if s, ok := scalar.Read(b); ok || s != (scalar.Scalar{}) {
			t.Errorf("%x is no scalar", b)
		}
		if s, ok := scalar.ReadSome(b); ok || s != (scalar.Scalar{}) {
			t.Errorf("%x is no scalar that is some", b)
		}
	}
}

func TestReadSome(t *testing.T) {
	for _, n := range edges() {
		s, ok := scalar.ReadSome(of(n))
		if ok != (n.Sign() != 0) {
			t.Errorf("%x: ReadSome: %v", n, ok)
		}
		same(t, "ReadSome", s, n)
	}
}

// tag is S3's, by the library's hash.
func tag(label string, parts ...[]byte) []byte {
	h := sha3.New256()
	for _, part := range append([][]byte{[]byte(label)}, parts...) {
		h.Write(count(int64(len(part))).FillBytes(make([]byte, 4)))
		h.Write(part)
	}
	return h.Sum(nil)
}

func stream(b []byte) *big.Int { return new(big.Int).SetBytes(sha3.SumSHAKE256(b, 64)) }

func TestChance(t *testing.T) {
	for _, parts := range [][][]byte{nil, {}, {nil}, {{}, {}}, {[]byte("a")}, {[]byte("a"), []byte("b")}, {[]byte("ab")}, {make([]byte, 500)}} {
		for _, label := range []string{"", "nonce", "alpha"} {
			same(t, "Chance", scalar.Chance(label, parts...), stream(tag(label, parts...)))
		}
	}
}

func TestSpread(t *testing.T) {
	for _, b := range [][]byte{nil, {}, {0}, []byte("a"), make([]byte, 32), make([]byte, 135), make([]byte, 136), make([]byte, 500)} {
		same(t, "Spread", scalar.Spread(b), stream(b))
	}
}

// No bytes are known that spread to 0, and no log whose challenge is 0: what becomes of it there is held here.
func TestOrOne(t *testing.T) {
	same(t, "OrOne of 0", scalar.Scalar{}.OrOne(), count(1))
	same(t, "OrOne of 0, as it is read", read(t, count(0)).OrOne(), count(1))
	same(t, "OrOne of what became 0", scalar.Of(7).Minus(scalar.Of(7)).OrOne(), count(1))
	for _, n := range edges()[1:] {
		same(t, "OrOne", read(t, n).OrOne(), n)
	}
}

// A log goes on with each scalar that it is asked for, and with all that is said between them.
func TestLog(t *testing.T) {
	state := tag("log", []byte("label"))
	l := scalar.NewLog("label")
	say := func(label, text string) {
		l.Say(label, []byte(text))
		state = tag("say", state, []byte(label), []byte(text))
	}
	asked := func(label string, got scalar.Scalar) {
		t.Helper()
		same(t, label, got, stream(tag("ask", state, []byte(label))))
		state = tag("asked", state, []byte(label))
	}
	asked("challenge", l.Challenge())
	say("text", "abc")
	asked("challenge", l.Challenge())
	asked("challenge", l.Challenge())
	asked("weight", l.Scalar("weight"))
	asked("weight", l.Scalar("weight"))
	say("", "")
	asked("", l.Scalar(""))
}

func TestBytesAreNew(t *testing.T) {
	s := read(t, count(7))
	b := s.Bytes()
	clear(b[:cap(b)])
	same(t, "after writing over its bytes", s, count(7))
}
