package num_test

import (
	"bytes"
	"encoding/hex"
	"math/big"
	"testing"

	"mintvault/api"
	"mintvault/num"
)

func TestModulus(t *testing.T) {
	each(func(kind api.Modulus, prime *big.Int) {
		b, errno := num.Modulus(kind)
		is(t, "N2: Modulus", b, errno, prime)
	})
	for kind, want := range map[api.Modulus]string{
		api.Prime: "fffffffffffffffffffffffffffffffffffffffffffffffffffffffefffffc2f",
		api.Order: "fffffffffffffffffffffffffffffffebaaedce6af48a03bbfd25e8cd0364141",
	} {
		if b, errno := num.Modulus(kind); errno != api.OK || hex.EncodeToString(b) != want {
			t.Errorf("N2: Modulus of %d: %x, %d", kind, b, errno)
		}
	}
}

func TestReduceOfEveryLength(t *testing.T) {
	each(func(kind api.Modulus, prime *big.Int) {
		for n := range 1025 {
			for _, b := range [][]byte{some(n, "reduce"), bytes.Repeat([]byte{255}, n), make([]byte, n)} {
				got, errno := num.Reduce(kind, b)
				is(t, "N2: Reduce", got, errno, new(big.Int).Mod(new(big.Int).SetBytes(b), prime))
			}
		}
	})
}

func TestReduceAroundThePrime(t *testing.T) {
	each(func(kind api.Modulus, prime *big.Int) {
		for times := range int64(4) {
			for more := int64(-2); more <= 2; more++ {
				n := add(new(big.Int).Mul(prime, count(times)), count(more))
				if n.Sign() < 0 {
					continue
				}
				got, errno := num.Reduce(kind, n.Bytes())
				is(t, "N2: Reduce", got, errno, new(big.Int).Mod(n, prime))
				got, errno = num.Reduce(kind, n.FillBytes(make([]byte, 1024)))
				is(t, "N2: Reduce of 1024 bytes", got, errno, new(big.Int).Mod(n, prime))
			}
		}
	})
}

func TestReduceOfNothing(t *testing.T) {
	each(func(kind api.Modulus, _ *big.Int) {
		for _, b := range [][]byte{nil, {}} {
			got, errno := num.Reduce(kind, b)
			is(t, "N2: Reduce of nothing", got, errno, count(0))
		}
	})
}

func TestTwoNumbers(t *testing.T) {
	each(func(kind api.Modulus, prime *big.Int) {
		for _, a := range numbers(prime) {
			for _, b := range numbers(prime) {
				for _, f := range twos() {
					got, errno := f.call(kind, of(a), of(b))
					want := f.want(new(big.Int), a, b)
					is(t, "N3: "+f.name, got, errno, want.Mod(want, prime))
				}
			}
		}
	})
}

func TestInvExample(t *testing.T) {
	b, errno := num.Inv(api.Order, of(count(2)))
	if want := "7fffffffffffffffffffffffffffffff5d576e7357a4501ddfe92f46681b20a1"; errno != api.OK || hex.EncodeToString(b) != want {
		t.Errorf("N3: Inv of 2: %x, %d", b, errno)
	}
}

func TestInv(t *testing.T) {
	each(func(kind api.Modulus, prime *big.Int) {
		for _, a := range numbers(prime) {
			want := new(big.Int)
			if a.Sign() > 0 {
				want.ModInverse(a, prime)
			}
			got, errno := num.Inv(kind, of(a))
			is(t, "N3: Inv", got, errno, want)
		}
	})
}

// Of every number one of itself and its opposite is a square, because the prime is one less than a multiple of 4.
func TestSqrt(t *testing.T) {
	each(func(kind api.Modulus, prime *big.Int) {
		if kind != api.Prime {
			return
		}
		for _, a := range numbers(prime) {
			roots := 0
			for _, square := range []*big.Int{a, new(big.Int).Mod(less(prime, a), prime)} {
				got, errno := num.Sqrt(kind, of(square))
				want := new(big.Int).ModSqrt(square, prime)
				if want == nil {
					fails(t, "N3: Sqrt of no square", got, errno, api.ErrNone)
					continue
				}
				roots++
				if want.Bit(0) == 1 {
					want.Sub(prime, want)
				}
				is(t, "N3: Sqrt", got, errno, want)
			}
			if roots == 0 {
				t.Errorf("N3: neither %x nor its opposite has a root", a)
			}
		}
	})
}

func TestSqrtIsTheEvenOne(t *testing.T) {
	each(func(kind api.Modulus, prime *big.Int) {
		if kind != api.Prime {
			return
		}
		for _, a := range numbers(prime) {
			square := new(big.Int).Mul(a, a)
			want := new(big.Int).Set(a)
			if a.Bit(0) == 1 {
				want.Sub(prime, a)
			}
			got, errno := num.Sqrt(kind, of(square.Mod(square, prime)))
			is(t, "N3: Sqrt of a square", got, errno, want)
		}
	})
}

func TestPowers(t *testing.T) {
	each(func(kind api.Modulus, prime *big.Int) {
		for _, x := range numbers(prime)[:14] {
			for _, n := range []int{0, 1, 2, 3, 255, 256} {
				powers, errno := num.Powers(kind, of(x), n)
				if errno != api.OK || len(powers) != n {
					t.Fatalf("N4: Powers: %d of %d, %d", len(powers), n, errno)
				}
				for i, got := range powers {
					is(t, "N4: Powers", got, api.OK, new(big.Int).Exp(x, count(int64(i)), prime))
				}
			}
		}
	})
}

func TestPowersOfZero(t *testing.T) {
	each(func(kind api.Modulus, _ *big.Int) {
		powers, errno := num.Powers(kind, make([]byte, 32), 3)
		if errno != api.OK || len(powers) != 3 {
			t.Fatalf("N4: Powers of 0: %x, %d", powers, errno)
		}
		is(t, "N4: 0 to the power of 0", powers[0], api.OK, count(1))
		is(t, "N4: 0 to the power of 1", powers[1], api.OK, count(0))
		is(t, "N4: 0 to the power of 2", powers[2], api.OK, count(0))
	})
}

func TestDot(t *testing.T) {
	each(func(kind api.Modulus, prime *big.Int) {
		for _, n := range []int{1, 2, 3, 255, 256} {
			a, b := list(n, "left"), list(n, "right")
			want := new(big.Int)
			for i := range a {
				want.Add(want, new(big.Int).Mul(new(big.Int).SetBytes(a[i]), new(big.Int).SetBytes(b[i])))
			}
			got, errno := num.Dot(kind, a, b)
			is(t, "N4: Dot", got, errno, want.Mod(want, prime))
		}
	})
}

func TestDotOfLargest(t *testing.T) {
	each(func(kind api.Modulus, prime *big.Int) {
		a := make([][]byte, 256)
		for i := range a {
			a[i] = of(less(prime, count(1)))
		}
		got, errno := num.Dot(kind, a, a)
		is(t, "N4: Dot of -1 256 times", got, errno, count(256))
	})
}

func TestDotOfNothing(t *testing.T) {
	each(func(kind api.Modulus, _ *big.Int) {
		for _, a := range [][][]byte{nil, {}} {
			for _, b := range [][][]byte{nil, {}} {
				got, errno := num.Dot(kind, a, b)
				is(t, "N4: Dot of no numbers", got, errno, count(0))
			}
		}
	})
}
