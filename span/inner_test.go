package span_test

import (
	"bytes"
	"math/big"
	"reflect"
	"slices"
	"strconv"
	"testing"

	"mintvault/api"
	"mintvault/group"
	"mintvault/span"
)

func lengths() []int { return []int{1, 2, 4, 8, 16, 32, 64} }

// sameInner holds lists without entries to be the same (E3).
func sameInner(a, b api.Inner) bool {
	return slices.EqualFunc(a.L, b.L, bytes.Equal) && slices.EqualFunc(a.R, b.R, bytes.Equal) && bytes.Equal(a.A, b.A) && bytes.Equal(a.B, b.B)
}

func proves(t *testing.T, what, label string, a, b []*big.Int) {
	t.Helper()
	wantPoint, want := inner(label, a, b)
	point, proof, errno := span.ProveInner(label, allOf(a), allOf(b))
	if errno != api.OK || !bytes.Equal(point, wantPoint) || !sameInner(proof, want) {
		t.Errorf("B1: %s, %d entries: %x, %x, %d, want %x, %x", what, len(a), point, proof, errno, wantPoint, want)
	}
	holds(t, "B2: "+what, span.VerifyInner(label, len(a), point, proof))
}

func TestProveInner(t *testing.T) {
	for _, n := range lengths() {
		a, b := ordinaries(n, "a"), ordinaries(n, "b")
		proves(t, "ordinary", "label", a, b)
		proves(t, "no label", "", b, a)
		proves(t, "all 0", "zero", zeros(n), zeros(n))
	}
}

func TestProveInnerOfEdges(t *testing.T) {
	top := less(order(), count(1))
	for _, n := range []int{1, 2, 4, 8} {
		a, b := ordinaries(n, "a"), ordinaries(n, "b")
		proves(t, "0 and others", "x", zeros(n), b)
		proves(t, "others and 0", "x", a, zeros(n))
		proves(t, "all of Order - 1", "x", slices.Repeat([]*big.Int{top}, n), slices.Repeat([]*big.Int{top}, n))
		proves(t, "the same twice", "x", a, a)
		for i := range n {
			other := slices.Clone(a)
			other[i] = top
			proves(t, "one of Order - 1", "x", other, b)
			proves(t, "one of Order - 1", "x", b, other)
		}
	}
	proves(t, "a long label", string(some(1000, "label")), ordinaries(2, "a"), ordinaries(2, "b"))
	proves(t, "a label that is no text", "\x00\xff", ordinaries(2, "a"), ordinaries(2, "b"))
}

func TestProveInnerOfZerosTellsNothing(t *testing.T) {
	for _, n := range lengths() {
		point, proof, errno := span.ProveInner("zero", allOf(zeros(n)), allOf(zeros(n)))
		if errno != api.OK || !bytes.Equal(point, nothing()) {
			t.Errorf("B1: %d zeros: %x, %d", n, point, errno)
		}
		for _, p := range slices.Concat(proof.L, proof.R) {
			if !bytes.Equal(p, nothing()) {
				t.Errorf("B1: %d zeros: %x", n, p)
			}
		}
	}
}

func failsInner(t *testing.T, what string, a, b [][]byte, want api.Errno) {
	t.Helper()
	point, proof, errno := span.ProveInner("label", a, b)
	if errno != want || len(point) != 0 || !sameInner(proof, api.Inner{}) {
		t.Errorf("B1: %s: %x, %x, %d, want %d", what, point, proof, errno, want)
	}
}

func TestProveInnerOfOtherLengths(t *testing.T) {
	right := func(n int) [][]byte { return allOf(ordinaries(n, "a")) }
	for _, n := range []int{0, 3, 5, 6, 7, 12, 31, 33, 63, 65, 96, 127, 128, 129, 256, 1000} {
		failsInner(t, "both of a length that is none", right(n), right(n), api.ErrForm)
		failsInner(t, "a wrong length, and no scalars", make([][]byte, n), make([][]byte, n), api.ErrForm)
		if n > 0 {
			failsInner(t, "a wrong length, and no scalar at the end", right(n), with(right(n), n-1, nil), api.ErrForm)
		}
		for _, m := range lengths() {
			failsInner(t, "the first of a length that is none", right(n), right(m), api.ErrForm)
			failsInner(t, "the second of a length that is none", right(m), right(n), api.ErrForm)
		}
	}
	for _, n := range lengths() {
		for _, m := range lengths() {
			if n != m {
				failsInner(t, "two right lengths", right(n), right(m), api.ErrForm)
				failsInner(t, "two right lengths, and no scalars", make([][]byte, n), make([][]byte, m), api.ErrForm)
			}
		}
	}
	failsInner(t, "nil and empty", nil, [][]byte{}, api.ErrForm)
	failsInner(t, "nil", nil, nil, api.ErrForm)
}

func TestProveInnerOfNone(t *testing.T) {
	for _, n := range lengths() {
		a, b := allOf(ordinaries(n, "a")), allOf(ordinaries(n, "b"))
		for _, none := range noScalars() {
			for _, i := range []int{0, n / 2, n - 1} {
				failsInner(t, "an entry of a is none", with(a, i, none), b, api.ErrScalar)
				failsInner(t, "an entry of b is none", a, with(b, i, none), api.ErrScalar)
				failsInner(t, "an entry of each is none", with(a, i, none), with(b, n-1-i, none), api.ErrScalar)
			}
		}
		failsInner(t, "all are nil", make([][]byte, n), make([][]byte, n), api.ErrScalar)
	}
}

// made is a right proof, and what it is for.
type made struct {
	label string
	n     int
	point []byte
	proof api.Inner
}

func makeInner(n int) made {
	point, proof, _ := span.ProveInner("label", allOf(ordinaries(n, "a")), allOf(ordinaries(n, "b")))
	return made{"label", n, point, proof}
}

func (m made) is(t *testing.T, what string, want bool) {
	t.Helper()
	if span.VerifyInner(m.label, m.n, m.point, m.proof) != want {
		t.Errorf("B2: %s, %d entries: %v", what, m.n, !want)
	}
}

func TestVerifyInnerForAnother(t *testing.T) {
	for _, n := range lengths() {
		m := makeInner(n)
		m.is(t, "right", true)
		for _, other := range []int{-128, -64, -2, -1, 0, 1, 2, 3, 4, 7, 8, 16, 32, 63, 64, 65, 128, 256, 1 << 40, -1 << 63} {
			made{m.label, other, m.point, m.proof}.is(t, "n is "+strconv.Itoa(other), other == n)
		}
		for _, label := range []string{"", "Label", "label ", "labe"} {
			made{label, n, m.point, m.proof}.is(t, "another label", n == 1)
		}
		for _, point := range [][]byte{group.Base(), nothing(), ok(group.Minus(m.point)), plus(m.point, group.Base())} {
			made{m.label, n, point, m.proof}.is(t, "another point", false)
		}
		for _, point := range noPoints() {
			made{m.label, n, point, m.proof}.is(t, "a point that is none", false)
		}
		made{m.label, n, m.point, makeInner(n).proof}.is(t, "made again", true)
		made{}.is(t, "nothing at all", false)
		made{n: n}.is(t, "no point and no proof", false)
		made{n: n, point: nothing()}.is(t, "no proof", false)
	}
}

// lists are what the list may have become.
func lists(list [][]byte) [][][]byte {
	all := [][][]byte{nil, {}, without(list, 0), without(list, len(list)-1), append(slices.Clone(list), nothing()), append(slices.Clone(list), list[0])}
	for _, i := range []int{0, len(list) / 2, len(list) - 1} {
		all = append(all, with(list, i, group.Base()), with(list, i, nothing()), with(list, i, ok(group.Minus(list[i]))))
		for _, none := range noPoints() {
			all = append(all, with(list, i, none))
		}
	}
	return all
}

func TestVerifyInnerWithOtherPoints(t *testing.T) {
	for _, n := range lengths()[1:] {
		m := makeInner(n)
		for i, bad := range lists(m.proof.L) {
			p := m.proof
			p.L = bad
			made{m.label, n, m.point, p}.is(t, "another L, "+strconv.Itoa(i), false)
		}
		for i, bad := range lists(m.proof.R) {
			p := m.proof
			p.R = bad
			made{m.label, n, m.point, p}.is(t, "another R, "+strconv.Itoa(i), false)
		}
		p := m.proof
		p.L, p.R = p.R, p.L
		made{m.label, n, m.point, p}.is(t, "L and R are exchanged", false)
		p.L, p.R = m.proof.L[1:], m.proof.R[1:]
		made{m.label, n, m.point, p}.is(t, "both are shorter", false)
		made{m.label, n / 2, m.point, p}.is(t, "both are shorter, and n is the half", false)
		p.L, p.R = append(slices.Clone(m.proof.L), nothing()), append(slices.Clone(m.proof.R), nothing())
		made{m.label, n, m.point, p}.is(t, "both are longer", false)
		made{m.label, 2 * n, m.point, p}.is(t, "both are longer, and n is the double", false)
	}
	m := makeInner(1)
	for _, lr := range [][2][][]byte{{{nothing()}, nil}, {nil, {nothing()}}, {{nothing()}, {nothing()}}} {
		made{m.label, 1, m.point, api.Inner{L: lr[0], R: lr[1], A: m.proof.A, B: m.proof.B}}.is(t, "entries where there are none", false)
	}
}

func TestVerifyInnerWithOtherScalars(t *testing.T) {
	for _, n := range lengths() {
		m := makeInner(n)
		bad := append(noScalars(), of(count(0)), of(count(1)), flipped(m.proof.A, 0), flipped(m.proof.A, 255), flipped(m.proof.B, 0), flipped(m.proof.B, 255))
		bad = append(bad, m.proof.A[1:], m.proof.A[:31], append([]byte{0}, m.proof.A...), append(bytes.Clone(m.proof.A), 0), m.proof.B[1:], append([]byte{0}, m.proof.B...))
		for i, x := range bad {
			p := m.proof
			p.A = x
			made{m.label, n, m.point, p}.is(t, "another A, "+strconv.Itoa(i), false)
			p = m.proof
			p.B = x
			made{m.label, n, m.point, p}.is(t, "another B, "+strconv.Itoa(i), false)
		}
		p := m.proof
		p.A, p.B = p.B, p.A
		made{m.label, n, m.point, p}.is(t, "A and B are exchanged", false)
	}
}

// A scalar has one form only: 0 must not be told as Order, even where all else holds.
func TestVerifyInnerWithOrderForZero(t *testing.T) {
	for _, n := range lengths() {
		point, proof, _ := span.ProveInner("zero", allOf(zeros(n)), allOf(zeros(n)))
		m := made{"zero", n, point, proof}
		m.is(t, "all 0", true)
		m.proof.A = whole(order())
		m.is(t, "A is Order", false)
		m.proof.A, m.proof.B = proof.A, whole(order())
		m.is(t, "B is Order", false)
		m.proof.B = make([]byte, 33)
		m.is(t, "B is 33 bytes 0", false)
		m.proof.B = nil
		m.is(t, "B is left out", false)
	}
	point, proof, _ := span.ProveInner("small", allOf([]*big.Int{count(5)}), allOf([]*big.Int{count(7)}))
	proof.A = whole(add(order(), count(5)))
	made{"small", 1, point, proof}.is(t, "A is Order + 5", false)
}

// What is no point must not pass for nothing, even where nothing would be right.
func TestVerifyInnerWithNoneForNothing(t *testing.T) {
	for _, n := range lengths() {
		point, proof, _ := span.ProveInner("zero", allOf(zeros(n)), allOf(zeros(n)))
		for _, none := range noPoints() {
			made{"zero", n, none, proof}.is(t, "a point that is none", false)
			for i := range proof.L {
				p := proof
				p.L = with(proof.L, i, none)
				made{"zero", n, point, p}.is(t, "an entry of L that is none", false)
				p.L, p.R = proof.L, with(proof.R, i, none)
				made{"zero", n, point, p}.is(t, "an entry of R that is none", false)
			}
		}
		p := proof
		p.L = append(slices.Clone(proof.L), nothing())
		made{"zero", n, point, p}.is(t, "one more in L", false)
		p.R = append(slices.Clone(proof.R), nothing())
		made{"zero", n, point, p}.is(t, "one more in both", false)
		p.L = proof.L
		made{"zero", n, point, p}.is(t, "one more in R", false)
		if n > 1 {
			p.L, p.R = proof.L[1:], proof.R
			made{"zero", n, point, p}.is(t, "one less in L", false)
			p.R = proof.R[1:]
			made{"zero", n, point, p}.is(t, "one less in both", false)
			p.L = proof.L
			made{"zero", n, point, p}.is(t, "one less in R", false)
		}
	}
}

// Where all is right but for one thing, whoever looks must find just what the document's words find.
func TestVerifyInnerAsTheDocumentLooks(t *testing.T) {
	for _, n := range []int{1, 2, 8} {
		m := makeInner(n)
		for shift := range int64(3) {
			p := m.proof
			p.A = of(add(number(p.A), count(shift)))
			want := looks(productTalk(m.label, m.point), groundOf(n), m.point, p)
			if want != (shift == 0) {
				t.Fatalf("the reference finds %v", want)
			}
			made{m.label, n, m.point, p}.is(t, "as the document looks", want)
		}
	}
}

func TestProveInnerAgain(t *testing.T) {
	if one, two := makeInner(8), makeInner(8); !reflect.DeepEqual(one, two) {
		t.Errorf("E1: %x, then %x", one, two)
	}
}
