package residue_test

import (
	"bytes"
	"math/big"
	"testing"

	"mintvault/residue"
)

type kind struct {
	name  string
	prime residue.Prime
	big   *big.Int
}

func kinds() []kind {
	gap, _ := new(big.Int).SetString("432420386565659656852420866394968145599", 10)
	return []kind{
		{"Coordinates", residue.Coordinates(), new(big.Int).Sub(power(256), big.NewInt(1<<32+977))},
		{"Scalars", residue.Scalars(), new(big.Int).Sub(power(256), gap)},
	}
}

func power(n uint) *big.Int { return new(big.Int).Lsh(big.NewInt(1), n) }

func toBig(n residue.Number) *big.Int {
	all := new(big.Int)
	for i := range n {
		all.Lsh(all, 64)
		all.Or(all, new(big.Int).SetUint64(n[3-i]))
	}
	return all
}

// edges are all numbers of four words at which something is carried, borrowed or not, and those around the prime.
func edges(k kind) []residue.Number {
	words := []uint64{0, 1, 1 << 63, 1<<64 - 1}
	var l []residue.Number
	for _, a := range words {
		for _, b := range words {
			for _, c := range words {
				for _, d := range words {
					l = append(l, residue.Number{a, b, c, d})
				}
			}
		}
	}
	for i := range uint64(4) {
		n := k.prime.Modulus()
		n[0] -= i + 1
		l = append(l, n)
	}
	var below []residue.Number
	for _, n := range l {
		if toBig(n).Cmp(k.big) < 0 {
			below = append(below, n)
		}
	}
	return below
}

func TestPrimes(t *testing.T) {
	for _, k := range kinds() {
		if toBig(k.prime.Modulus()).Cmp(k.big) != 0 {
			t.Errorf("%s: %x, want %x", k.name, k.prime.Modulus(), k.big)
		}
	}
	if residue.Coordinates() == residue.Scalars() {
		t.Error("the two primes are the same")
	}
}

func TestTwoAtTheEdges(t *testing.T) {
	for _, k := range kinds() {
		all := edges(k)
		for _, a := range all {
			for _, b := range all {
				x, y := toBig(a), toBig(b)
				check(t, k, "Plus", a, b, k.prime.Plus(a, b), new(big.Int).Add(x, y))
				check(t, k, "Minus", a, b, k.prime.Minus(a, b), new(big.Int).Sub(x, y))
				check(t, k, "Times", a, b, k.prime.Times(a, b), new(big.Int).Mul(x, y))
			}
		}
	}
}

// A coordinate is another way to write down the same steps.
func TestCoordinatesAtTheEdges(t *testing.T) {
	k := kinds()[0]
	all := edges(k)
	for _, a := range all {
		for _, b := range all {
			x, y := a.Coordinate(), b.Coordinate()
			same(t, "Plus", a, b, x.Plus(y), k.prime.Plus(a, b))
			same(t, "Minus", a, b, x.Minus(y), k.prime.Minus(a, b))
			same(t, "Times", a, b, x.Times(y), k.prime.Times(a, b))
			if (x == y) != (a == b) {
				t.Fatalf("%x and %x as coordinates: the same: %v", a, b, x == y)
			}
		}
	}
}

func same(t *testing.T, what string, a, b residue.Number, got residue.Coordinate, want residue.Number) {
	t.Helper()
	if got.Number() != want || got != want.Coordinate() {
		t.Fatalf("%x %s %x: %x, want %x", a, what, b, got.Number(), want)
	}
}

func TestBits(t *testing.T) {
	for _, a := range edges(kinds()[0]) {
		for from := range 270 {
			for _, count := range []int{0, 1, 2, 4, 5, 31} {
				want := new(big.Int).Rsh(toBig(a), uint(from))
				want.And(want, new(big.Int).Sub(power(uint(count)), big.NewInt(1)))
				if got := a.Bits(from, count); int64(got) != want.Int64() {
					t.Fatalf("%x: %d bits from %d on: %x, want %x", a, count, from, got, want)
				}
			}
		}
	}
}

func check(t *testing.T, k kind, what string, a, b, got residue.Number, want *big.Int) {
	t.Helper()
	if toBig(got).Cmp(want.Mod(want, k.big)) != 0 {
		t.Fatalf("%s: %x %s %x: %x, want %x", k.name, a, what, b, got, want)
	}
}

func TestInverseAtTheEdges(t *testing.T) {
	for _, k := range kinds() {
		for _, a := range edges(k) {
			want := residue.Number{1}
			if a == (residue.Number{}) {
				want = a
			}
			if got := k.prime.Times(a, k.prime.Inverse(a)); got != want {
				t.Errorf("%s: %x times its inverse: %x", k.name, a, got)
			}
		}
	}
}

func TestRootAtTheEdges(t *testing.T) {
	k := kinds()[0]
	for _, a := range edges(k) {
		root, ok := k.prime.Root(a)
		if want := new(big.Int).ModSqrt(toBig(a), k.big); ok != (want != nil) {
			t.Errorf("a root of %x: %v", a, ok)
		}
		if ok && (root.Odd() || k.prime.Times(root, root) != a) || !ok && root != (residue.Number{}) {
			t.Errorf("the root of %x: %x", a, root)
		}
	}
}

func TestBytesAndBack(t *testing.T) {
	for _, k := range kinds() {
		for _, a := range edges(k) {
			b := a.Bytes()
			if want := toBig(a).FillBytes(make([]byte, 32)); !bytes.Equal(b, want) {
				t.Errorf("%x: bytes %x", a, b)
			}
			if n, ok := k.prime.Read(b); !ok || n != a {
				t.Errorf("%s: read of %x: %x, %v", k.name, b, n, ok)
			}
			if a.Odd() != (b[31]%2 == 1) {
				t.Errorf("%x: odd: %v", a, a.Odd())
			}
		}
	}
}

func TestReadOfNone(t *testing.T) {
	for _, k := range kinds() {
		for _, b := range [][]byte{nil, {}, make([]byte, 31), make([]byte, 33), k.prime.Modulus().Bytes(), bytes.Repeat([]byte{255}, 32)} {
			if n, ok := k.prime.Read(b); ok || n != (residue.Number{}) {
				t.Errorf("%s: read of %x: %x, %v", k.name, b, n, ok)
			}
		}
	}
}

// Two numbers, one behind the other, are the first one 2^256 times and the second one.
func TestReduceAtTheEdges(t *testing.T) {
	for _, k := range kinds() {
		all := edges(k)
		for i, a := range all {
			b := all[(i*7+3)%len(all)]
			both := append(a.Bytes(), b.Bytes()...)
			check(t, k, "ahead of", a, b, k.prime.Reduce(both), new(big.Int).SetBytes(both))
		}
		if n := k.prime.Reduce(nil); n != (residue.Number{}) {
			t.Errorf("%s: reduce of nothing: %x", k.name, n)
		}
	}
}

// What is brought down from above 2^256 once and twice is made to end in just below 2^256, so that it must be brought down two times more; hardly any other number needs that.
func TestReduceOfTheLongestWay(t *testing.T) {
	for _, k := range kinds() {
		gap := new(big.Int).Sub(power(256), k.big)
		high := k.prime.Modulus()
		high[0]--
		first := new(big.Int).Mul(toBig(high), gap)
		for carry := range int64(2) {
			above := new(big.Int).Rsh(first, 256)
			above.Add(above, big.NewInt(carry))
			low := new(big.Int).Sub(power(256), big.NewInt(1))
			low.Sub(low, above.Mul(above, gap))
			low.Sub(low, first)
			low.Mod(low, power(256))
			both := append(high.Bytes(), low.FillBytes(make([]byte, 32))...)
			check(t, k, "ahead of", high, residue.Number{}, k.prime.Reduce(both), new(big.Int).SetBytes(both))
		}
	}
}
