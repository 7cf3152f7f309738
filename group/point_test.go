package group_test

import (
	"bytes"
	"encoding/hex"
	"testing"

	"mintvault/api"
	"mintvault/group"
)

func TestBase(t *testing.T) {
	if got := hex.EncodeToString(group.Base()); got != "0279be667ef9dcbbac55a06295ce870b07029bfcdb2dce28d959f2815b16f81798" {
		t.Errorf("G1: Base: %s", got)
	}
	is(t, "G1: Base", group.Base(), api.OK, base())
}

func TestPointsAre(t *testing.T) {
	for _, a := range pairs() {
		if !group.Point(a.bytes()) {
			t.Errorf("G1: %x is no point", a.bytes())
		}
	}
	for i, b := range noPoints() {
		if group.Point(b) {
			t.Errorf("G1: row %d: %x is a point", i, b)
		}
	}
}

// About every other x has a point, and then both first bytes have one.
func TestPointsOfEveryX(t *testing.T) {
	with := 0
	for n := range int64(200) {
		for _, x := range [][]byte{of(count(n)), of(less(prime(), count(n+1))), some(32, string(rune(n)))} {
			want := on(number(x)) != nil
			if want {
				with++
			}
			for _, mark := range []byte{2, 3} {
				if b := append([]byte{mark}, x...); group.Point(b) != want {
					t.Errorf("G1: Point of %x: %v", b, !want)
				}
			}
		}
	}
	if with < 200 || with > 400 {
		t.Errorf("G1: %d of 600 have a point", with)
	}
}

// What is not below Prime is none, even where the number without Prime has a point.
func TestPointsBeyondPrime(t *testing.T) {
	for n := range int64(200) {
		for _, mark := range []byte{2, 3} {
			if b := append([]byte{mark}, of(add(prime(), count(n)))...); group.Point(b) {
				t.Errorf("G1: %x is a point", b)
			}
		}
	}
}

func TestEveryFirstByte(t *testing.T) {
	g := group.Base()
	for mark := range 256 {
		b := append([]byte{byte(mark)}, g[1:]...)
		if want := mark == 2 || mark == 3; group.Point(b) != want {
			t.Errorf("G1: Point with the first byte %d: %v", mark, !want)
		}
		nothing := append([]byte{byte(mark)}, make([]byte, 32)...)
		if want := mark == 0; group.Point(nothing) != want {
			t.Errorf("G1: Point with the first byte %d and the x 0: %v", mark, !want)
		}
	}
}

func TestEveryLength(t *testing.T) {
	for n := range 100 {
		long := append(group.Base(), make([]byte, 100)...)
		for _, b := range [][]byte{make([]byte, n), long[:n]} {
			if want := n == 33; group.Point(b) != want {
				t.Errorf("G1: Point of %d bytes: %v", n, !want)
			}
		}
	}
}

// Nothing is 33 bytes 0: one other bit is too many.
func TestNothingIsAllZeros(t *testing.T) {
	for i := range 33 {
		for bit := range 8 {
			b := make([]byte, 33)
			b[i] = 1 << bit
			if group.Point(b) {
				t.Errorf("G1: %x is a point", b)
			}
		}
	}
}

func TestPlus(t *testing.T) {
	for _, a := range pairs() {
		for _, b := range pairs() {
			got, errno := group.Plus(a.bytes(), b.bytes())
			is(t, "G2: Plus", got, errno, a.plus(b))
		}
	}
	got, errno := group.Plus(group.Base(), group.Base())
	begins(t, "G2: the base and itself", got, errno, "02c6047f9441ed7d")
}

func TestMinus(t *testing.T) {
	for _, a := range pairs() {
		m, errno := group.Minus(a.bytes())
		is(t, "G2: Minus", m, errno, a.minus())
		got, errno := group.Plus(m, a.bytes())
		is(t, "G2: a point and its opposite", got, errno, nil)
		got, errno = group.Minus(m)
		is(t, "G2: Minus of Minus", got, errno, a)
	}
}

func TestTimesOfTheBase(t *testing.T) {
	for _, n := range counts() {
		got, errno := group.Times(of(n), group.Base())
		is(t, "G2: Times of the base", got, errno, base().times(n))
	}
	got, errno := group.Times(make([]byte, 32), group.Base())
	if errno != api.OK || !bytes.Equal(got, make([]byte, 33)) {
		t.Errorf("G2: 0 times the base: %x, %d", got, errno)
	}
	got, errno = group.Times(of(count(2)), group.Base())
	begins(t, "G2: twice the base", got, errno, "02c6047f9441ed7d")
}

func TestTimes(t *testing.T) {
	for _, a := range pairs() {
		for _, n := range append(counts()[:12], scalar("n"), scalar("m"), power(255)) {
			got, errno := group.Times(of(n), a.bytes())
			is(t, "G2: Times", got, errno, a.times(n))
		}
		got, errno := group.Times(of(less(order(), count(1))), a.bytes())
		is(t, "G2: Order less 1 times", got, errno, a.minus())
	}
}

func TestNoPoint(t *testing.T) {
	g := group.Base()
	for _, b := range noPoints() {
		for _, other := range [][]byte{g, make([]byte, 33), b, nil} {
			got, errno := group.Plus(b, other)
			fails(t, "G2: Plus, left", got, errno, api.ErrPoint)
			got, errno = group.Plus(other, b)
			fails(t, "G2: Plus, right", got, errno, api.ErrPoint)
		}
		got, errno := group.Minus(b)
		fails(t, "G2: Minus", got, errno, api.ErrPoint)
		for _, n := range []int64{0, 1, 2} {
			got, errno = group.Times(of(count(n)), b)
			fails(t, "G2: Times", got, errno, api.ErrPoint)
		}
	}
}

// A scalar that is none is told ahead of a point that is none.
func TestNoScalar(t *testing.T) {
	for _, n := range noScalars() {
		for _, a := range append(noPoints(), group.Base(), make([]byte, 33)) {
			got, errno := group.Times(n, a)
			fails(t, "G2: Times", got, errno, api.ErrScalar)
		}
	}
}
