package span_test

import (
	"bytes"
	"slices"
	"strconv"
	"testing"

	"mintvault/api"
	"mintvault/span"
)

// shaped is no proof, but has the parts of one, with so many entries in L and in R.
func shaped(left, right int) api.Range {
	point := func(name string) []byte { return some(33, name) }
	scalar := func(name string) []byte { return some(32, name) }
	p := api.Range{
		A: point("A"), S: point("S"), T1: point("T1"), T2: point("T2"), Tau: scalar("Tau"), Mu: scalar("Mu"), T: scalar("T"),
		Inner: api.Inner{A: scalar("a"), B: scalar("b")},
	}
	for i := range left {
		p.Inner.L = append(p.Inner.L, point("L"+strconv.Itoa(i)))
	}
	for i := range right {
		p.Inner.R = append(p.Inner.R, point("R"+strconv.Itoa(i)))
	}
	return p
}

// laid is the bytes of a proof, as the document says them.
func laid(p api.Range) []byte {
	i := p.Inner
	return slices.Concat([]byte{byte(len(i.L))}, p.A, p.S, p.T1, p.T2, p.Tau, p.Mu, p.T, bytes.Join(i.L, nil), bytes.Join(i.R, nil), i.A, i.B)
}

func thereAndBack(t *testing.T, what string, p api.Range) {
	t.Helper()
	b, errno := span.Put(p)
	if want := laid(p); errno != api.OK || !bytes.Equal(b, want) {
		t.Errorf("B5: Put, %s: %x, %d, want %x", what, b, errno, want)
	}
	if got, errno := span.Read(b); errno != api.OK || !sameRange(got, p) {
		t.Errorf("B5: Read, %s: %x, %d, want %x", what, got, errno, p)
	}
}

func TestPutAndRead(t *testing.T) {
	for n := range 7 {
		thereAndBack(t, strconv.Itoa(n)+" entries", shaped(n, n))
	}
	for _, bits := range widths() {
		thereAndBack(t, strconv.Itoa(bits)+" bits", makeRange(77, bits).proof)
	}
	zero := shaped(6, 6)
	for _, part := range allParts(&zero) {
		*part = make([]byte, len(*part))
	}
	thereAndBack(t, "all 0", zero)
}

func failsPut(t *testing.T, what string, p api.Range) {
	t.Helper()
	if b, errno := span.Put(p); errno != api.ErrForm || len(b) != 0 {
		t.Errorf("B5: Put, %s: %x, %d", what, b, errno)
	}
}

func TestPutOfOtherLists(t *testing.T) {
	for left := range 9 {
		for right := range 9 {
			if left != right || left > 6 {
				failsPut(t, strconv.Itoa(left)+" and "+strconv.Itoa(right), shaped(left, right))
			}
		}
	}
	for _, n := range []int{255, 256, 257, 256 + 6, 1000} {
		failsPut(t, strconv.Itoa(n)+" of each", shaped(n, n))
	}
	failsPut(t, "nothing", api.Range{})
	failsPut(t, "entries of nothing", api.Range{Inner: api.Inner{L: make([][]byte, 3), R: make([][]byte, 3)}})
}

func TestPutOfOtherParts(t *testing.T) {
	for n := range 7 {
		for i, part := range func(p api.Range) []*[]byte { return allParts(&p) }(shaped(n, n)) {
			b := *part
			for _, bad := range [][]byte{nil, {}, b[1:], b[:len(b)-1], append(bytes.Clone(b), 0), append([]byte{0}, b...), make([]byte, 65-len(b)), make([]byte, 2*len(b))} {
				p := shaped(n, n)
				*allParts(&p)[i] = bad
				failsPut(t, "part "+strconv.Itoa(i)+" of "+strconv.Itoa(len(bad))+" bytes", p)
			}
		}
	}
}

// One part's byte too few must not be made up for by another's too many.
func TestPutOfShiftedParts(t *testing.T) {
	whole := shaped(3, 3)
	n := len(allParts(&whole))
	for i := range n {
		for j := range n {
			if i != j {
				p := shaped(3, 3)
				parts := allParts(&p)
				*parts[i], *parts[j] = (*parts[i])[1:], append(*parts[j], 0)
				failsPut(t, "a byte from one to another", p)
			}
		}
	}
}

func failsRead(t *testing.T, what string, b []byte) {
	t.Helper()
	if p, errno := span.Read(b); errno != api.ErrForm || !sameRange(p, api.Range{}) {
		t.Errorf("B5: Read, %s, %d bytes: %x, %d", what, len(b), p, errno)
	}
}

func TestReadOfOtherLengths(t *testing.T) {
	failsRead(t, "nil", nil)
	failsRead(t, "empty", []byte{})
	for n := range 7 {
		b := laid(shaped(n, n))
		for short := range b {
			failsRead(t, "too short", b[:short])
		}
		for _, more := range []int{1, 2, 31, 32, 33, 64, 65, 66, 1000} {
			failsRead(t, "too long", append(bytes.Clone(b), make([]byte, more)...))
		}
		for first := range 256 {
			if first != n {
				failsRead(t, "another first byte", append([]byte{byte(first)}, b[1:]...))
			}
		}
	}
}

func TestReadOfTooMany(t *testing.T) {
	for _, n := range []int{7, 8, 255} {
		failsRead(t, "too many entries, and as many as it says", laid(shaped(n, n)))
	}
	failsRead(t, "256 entries", laid(shaped(256, 256)))
}
