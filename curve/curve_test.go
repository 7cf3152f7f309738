package curve_test

import (
	"bytes"
	"testing"

	"mintvault/api"
	"mintvault/curve"
	"mintvault/group"
	"mintvault/scalar"
)

func ok(b []byte, errno api.Errno) []byte {
	if errno != api.OK {
		panic(errno)
	}
	return b
}

func small(n uint64) []byte { return scalar.Of(n).Bytes() }

func same(t *testing.T, what string, got curve.Point, want []byte) {
	t.Helper()
	if !bytes.Equal(got[:], want) {
		t.Errorf("%s: %x, want %x", what, got, want)
	}
}

func TestRead(t *testing.T) {
	nothing := make([]byte, 33)
	g := group.Base()
	for _, b := range [][]byte{g, ok(group.Minus(g)), nothing} {
		p, isOne := curve.Read(b)
		if !isOne {
			t.Errorf("%x is a point", b)
		}
		same(t, "Read", p, b)
		same(t, "Bytes", p, p.Bytes())
		if _, some := curve.ReadSome(b); some != !bytes.Equal(b, nothing) {
			t.Errorf("%x: ReadSome: %v", b, some)
		}
	}
	for _, b := range [][]byte{nil, {}, {2}, g[:32], g[1:], append(bytes.Clone(g), 0), make([]byte, 32), append([]byte{4}, g[1:]...), append([]byte{2}, small(5)...)} {
		if p, isOne := curve.Read(b); isOne || p != (curve.Point{}) {
			t.Errorf("%x is no point", b)
		}
		if p, isOne := curve.ReadSome(b); isOne || p != (curve.Point{}) {
			t.Errorf("%x is no point that is some", b)
		}
	}
}

func TestGivenPoints(t *testing.T) {
	same(t, "Generator", curve.Generator(), group.Base())
	same(t, "Hash", curve.Hash("left", []byte{0, 0, 0, 1}), ok(group.HashTo("left", []byte{0, 0, 0, 1})))
	same(t, "Hash of no bytes", curve.Hash("inner", nil), ok(group.HashTo("inner", nil)))
	same(t, "Commit", curve.Commit(scalar.Of(5), scalar.Of(7)), ok(group.Commit(small(5), small(7))))
}

func TestSum(t *testing.T) {
	p, q := curve.Hash("p", nil), curve.Hash("q", nil)
	want := func(a, b, c uint64) []byte {
		return ok(group.Sum([][]byte{small(a), small(b), small(c)}, [][]byte{p[:], q[:], group.Base()}))
	}
	s := p.Times(scalar.Of(3)).Plus(q.Times(scalar.Of(4)))
	same(t, "Plus", s.Point(), want(3, 4, 0))
	same(t, "Times", s.Times(scalar.Of(5)).Point(), want(15, 20, 0))
	same(t, "Minus", s.Minus(p.Times(scalar.Of(1)).Minus(curve.Generator().Times(scalar.Of(2)))).Point(), want(2, 4, 2))
	same(t, "after all of these", s.Point(), want(3, 4, 0))
	same(t, "a point twice", s.Plus(s).Plus(q.Times(scalar.Of(1))).Point(), want(6, 9, 0))
	same(t, "nothing in it", s.Plus(curve.Point{}.Times(scalar.Of(9))).Point(), want(3, 4, 0))
}

func TestSumOfNothing(t *testing.T) {
	p := curve.Hash("p", nil).Times(scalar.Of(3))
	for _, s := range []curve.Sum{nil, {}, p.Times(scalar.Scalar{}), p.Minus(p), curve.Point{}.Times(scalar.Of(1)), curve.Sum(nil).Times(scalar.Of(1)).Plus(nil)} {
		same(t, "nothing", s.Point(), make([]byte, 33))
	}
}

// Points that come again and again count once.
func TestSumOfManyTerms(t *testing.T) {
	var s curve.Sum
	for i := range 3000 {
		s = append(s, curve.Hash("many", []byte{byte(i % 3)}).Times(scalar.Of(uint64(i)))...)
	}
	var want curve.Sum
	for i := range 3 {
		want = want.Plus(curve.Hash("many", []byte{byte(i)}).Times(scalar.Of(uint64(1000*i + 3*999*1000/2))))
	}
	same(t, "3000 terms", s.Point(), want.Point().Bytes())
}

func TestSumsShareNothing(t *testing.T) {
	room := append(make(curve.Sum, 0, 9), curve.Generator().Times(scalar.Of(1))...)
	one, two := room.Plus(curve.Hash("a", nil).Times(scalar.Of(1))), room.Plus(curve.Hash("b", nil).Times(scalar.Of(1)))
	if one[1] == two[1] {
		t.Error("two sums share memory")
	}
	b := one.Point().Bytes()
	p, _ := curve.Read(b)
	clear(b)
	same(t, "after writing over the bytes", p, one.Point().Bytes())
}
