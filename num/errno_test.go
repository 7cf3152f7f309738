package num_test

import (
	"math"
	"math/big"
	"testing"

	"mintvault/api"
	"mintvault/num"
)

// Whatever else is wrong, too: the kind is told first.
func TestKindIsNone(t *testing.T) {
	bad := append(noNumbers(power(255)), of(count(1)))
	for _, kind := range noKinds() {
		b, errno := num.Modulus(kind)
		fails(t, "N1: Modulus", b, errno, api.ErrForm)
		for _, n := range []int{0, 1024, 1025} {
			b, errno = num.Reduce(kind, make([]byte, n))
			fails(t, "N1: Reduce", b, errno, api.ErrForm)
		}
		for _, x := range bad {
			for _, f := range twos() {
				b, errno = f.call(kind, x, x)
				fails(t, "N1: "+f.name, b, errno, api.ErrForm)
			}
			b, errno = num.Inv(kind, x)
			fails(t, "N1: Inv", b, errno, api.ErrForm)
			b, errno = num.Sqrt(kind, x)
			fails(t, "N1: Sqrt", b, errno, api.ErrForm)
			for _, n := range []int{-1, 0, 256, 257} {
				l, errno := num.Powers(kind, x, n)
				fails(t, "N1: Powers", l, errno, api.ErrForm)
			}
			for _, n := range []int{0, 1, 256, 257} {
				l := make([][]byte, n)
				for i := range l {
					l[i] = x
				}
				b, errno = num.Dot(kind, l, l)
				fails(t, "N1: Dot", b, errno, api.ErrForm)
				b, errno = num.Dot(kind, l, nil)
				fails(t, "N1: Dot", b, errno, api.ErrForm)
			}
		}
	}
}

func TestSqrtOfOrder(t *testing.T) {
	for _, x := range append(noNumbers(power(255)), of(count(0)), of(count(1)), of(count(4))) {
		b, errno := num.Sqrt(api.Order, x)
		fails(t, "N1: Sqrt of Order", b, errno, api.ErrForm)
	}
}

func TestTooLong(t *testing.T) {
	each(func(kind api.Modulus, prime *big.Int) {
		for _, n := range []int{1025, 1026, 1056, 2048, 65536} {
			b, errno := num.Reduce(kind, make([]byte, n))
			fails(t, "N1: Reduce", b, errno, api.ErrLong)
		}
		for _, n := range []int{-1, 257, math.MinInt, math.MaxInt, 1 << 32} {
			for _, x := range [][]byte{of(count(2)), nil, of(prime)} {
				l, errno := num.Powers(kind, x, n)
				fails(t, "N1: Powers", l, errno, api.ErrLong)
			}
		}
	})
}

// A list that is too long is told ahead of what is no number, and ahead of two lengths, on both sides.
func TestDotTooLong(t *testing.T) {
	each(func(kind api.Modulus, _ *big.Int) {
		for _, long := range [][][]byte{list(257, "long"), make([][]byte, 257), make([][]byte, 1000)} {
			for _, other := range [][][]byte{nil, list(1, "a"), {nil}, list(256, "b"), long} {
				b, errno := num.Dot(kind, long, other)
				fails(t, "N1: Dot, left", b, errno, api.ErrLong)
				b, errno = num.Dot(kind, other, long)
				fails(t, "N1: Dot, right", b, errno, api.ErrLong)
			}
		}
	})
}

func TestNoNumber(t *testing.T) {
	each(func(kind api.Modulus, prime *big.Int) {
		one := of(count(1))
		for _, x := range noNumbers(prime) {
			for _, f := range twos() {
				b, errno := f.call(kind, x, one)
				fails(t, "N1: "+f.name+", left", b, errno, api.ErrScalar)
				b, errno = f.call(kind, one, x)
				fails(t, "N1: "+f.name+", right", b, errno, api.ErrScalar)
				b, errno = f.call(kind, x, x)
				fails(t, "N1: "+f.name+", both", b, errno, api.ErrScalar)
			}
			b, errno := num.Inv(kind, x)
			fails(t, "N1: Inv", b, errno, api.ErrScalar)
			if kind == api.Prime {
				b, errno = num.Sqrt(kind, x)
				fails(t, "N1: Sqrt", b, errno, api.ErrScalar)
			}
			for _, n := range []int{0, 1, 256} {
				l, errno := num.Powers(kind, x, n)
				fails(t, "N1: Powers", l, errno, api.ErrScalar)
			}
		}
	})
}

// A number of the one prime may be none of the other.
func TestNumbersBetweenThePrimes(t *testing.T) {
	each(func(kind api.Modulus, prime *big.Int) {
		if kind != api.Order {
			return
		}
		b, errno := num.Inv(api.Order, of(prime))
		fails(t, "N1: Inv of Order", b, errno, api.ErrScalar)
		if _, errno = num.Inv(api.Prime, of(prime)); errno != api.OK {
			t.Errorf("N1: Inv of the order modulo Prime: %d", errno)
		}
	})
}

// What is no number is told ahead of two lengths, wherever it stands.
func TestDotNoNumber(t *testing.T) {
	each(func(kind api.Modulus, prime *big.Int) {
		good := list(3, "good")
		for _, x := range noNumbers(prime) {
			for place := range 3 {
				bad := list(3, "bad")
				bad[place] = x
				for _, other := range [][][]byte{good, good[:2], nil, bad} {
					b, errno := num.Dot(kind, bad, other)
					fails(t, "N1: Dot, left", b, errno, api.ErrScalar)
					b, errno = num.Dot(kind, other, bad)
					fails(t, "N1: Dot, right", b, errno, api.ErrScalar)
				}
			}
		}
	})
}

func TestDotOfTwoLengths(t *testing.T) {
	each(func(kind api.Modulus, _ *big.Int) {
		for _, n := range [][2]int{{0, 1}, {1, 2}, {255, 256}, {0, 256}} {
			a, b := list(n[0], "a"), list(n[1], "b")
			got, errno := num.Dot(kind, a, b)
			fails(t, "N1: Dot of two lengths", got, errno, api.ErrForm)
			got, errno = num.Dot(kind, b, a)
			fails(t, "N1: Dot of two lengths", got, errno, api.ErrForm)
		}
	})
}
