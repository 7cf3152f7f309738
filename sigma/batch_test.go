package sigma_test

import (
	"bytes"
	"math/big"
	"slices"
	"strconv"
	"testing"

	"mintvault/api"
	"mintvault/sigma"
)

// batch is what Batch is handed.
type batch struct {
	publics, texts, signatures [][]byte
}

func (b *batch) add(public, text, signature []byte) {
	b.publics, b.texts, b.signatures = append(b.publics, public), append(b.texts, text), append(b.signatures, signature)
}

// right is a batch of n entries, all right.
func right(n int) *batch {
	b := new(batch)
	for i := range n {
		x, text := ordinary(strconv.Itoa(i)), bytes.Repeat([]byte{byte(i)}, i)
		b.add(public(x), text, signed(x, text))
	}
	return b
}

// copied can be changed at its places, not in its bytes.
func (b *batch) copied() *batch {
	return &batch{slices.Clone(b.publics), slices.Clone(b.texts), slices.Clone(b.signatures)}
}

// shifted has another z at one place.
func (b *batch) shifted(i int, by *big.Int) *batch {
	b = b.copied()
	s := b.signatures[i]
	b.signatures[i] = with(s, 33, of(add(number(s[33:]), by)))
	return b
}

func (b *batch) is(t *testing.T, what string, want bool) {
	t.Helper()
	if got, errno := sigma.Batch(b.publics, b.texts, b.signatures); got != want || errno != api.OK {
		t.Errorf("Q3: %s: %v, %d", what, got, errno)
	}
}

func (b *batch) fails(t *testing.T, what string, want api.Errno) {
	t.Helper()
	if got, errno := sigma.Batch(b.publics, b.texts, b.signatures); got || errno != want {
		t.Errorf("Q3: %s: %v, %d, want %d", what, got, errno, want)
	}
}

func TestBatchOfSoMany(t *testing.T) {
	for _, n := range []int{0, 1, 2, 3, 17, 63, 64} {
		right(n).is(t, "all right", true)
	}
	for _, empty := range [][][]byte{nil, {}} {
		(&batch{empty, nil, [][]byte{}}).is(t, "no entries", true)
	}
}

func TestBatchTooLong(t *testing.T) {
	right(65).fails(t, "65 that are right", api.ErrLong)
	for _, n := range []int{65, 66, 100, 1000} {
		(&batch{make([][]byte, n), make([][]byte, n), make([][]byte, n)}).fails(t, "too many", api.ErrLong)
	}
}

// Other lengths are told ahead of lists that are too long.
func TestBatchOfOtherLengths(t *testing.T) {
	for _, n := range [][2]int{{0, 1}, {1, 0}, {2, 3}, {64, 63}, {64, 65}, {65, 64}, {65, 66}, {0, 65}, {1000, 100}} {
		one, two := right(n[0]), right(n[1])
		(&batch{two.publics, one.texts, one.signatures}).fails(t, "publics of another length", api.ErrForm)
		(&batch{one.publics, two.texts, one.signatures}).fails(t, "texts of another length", api.ErrForm)
		(&batch{one.publics, one.texts, two.signatures}).fails(t, "signatures of another length", api.ErrForm)
	}
	(&batch{make([][]byte, 1), make([][]byte, 2), make([][]byte, 3)}).fails(t, "three lengths", api.ErrForm)
	(&batch{make([][]byte, 65), make([][]byte, 66), make([][]byte, 67)}).fails(t, "three great lengths", api.ErrForm)
}

func TestBatchWithOneWrong(t *testing.T) {
	for _, n := range []int{1, 2, 9, 64} {
		b := right(n)
		for _, i := range []int{0, n / 2, n - 1} {
			b.shifted(i, count(1)).is(t, "another z", false)
			bad := b.copied()
			bad.texts[i] = []byte("another")
			bad.is(t, "another text", false)
			bad = b.copied()
			bad.publics[i] = public(count(77))
			bad.is(t, "another public", false)
			bad = b.copied()
			bad.signatures[i] = with(b.signatures[i], 0, public(count(77)))
			bad.is(t, "another R", false)
			bad = b.copied()
			bad.signatures[i] = with(b.signatures[i], 0, nothing())
			bad.is(t, "an R that is nothing", false)
		}
	}
}

func TestBatchOfEveryBit(t *testing.T) {
	b := right(3)
	for i, bad := range flips(b.signatures[1]) {
		other := b.copied()
		other.signatures[1] = bad
		other.is(t, "bit "+strconv.Itoa(i)+" of a signature", false)
	}
	for i, bad := range flips(b.publics[1]) {
		other := b.copied()
		other.publics[1] = bad
		other.is(t, "bit "+strconv.Itoa(i)+" of a public", false)
	}
}

func TestBatchWithNone(t *testing.T) {
	b := right(3)
	for place := range 3 {
		for _, p := range append(noPoints(), nothing()) {
			bad := b.copied()
			bad.publics[place] = p
			bad.is(t, "a public that is none", false)
			bad.signatures[place] = join(public(count(5)), of(count(5)))
			bad.is(t, "a public that is none, R is z G", false)
		}
		for _, s := range badSignatures(b.signatures[place]) {
			bad := b.copied()
			bad.signatures[place] = s
			bad.is(t, "a signature that is none", false)
		}
	}
	for _, n := range []int{1, 2, 64} {
		(&batch{make([][]byte, n), make([][]byte, n), make([][]byte, n)}).is(t, "entries of nil", false)
		empty := slices.Repeat([][]byte{{}}, n)
		(&batch{empty, empty, empty}).is(t, "empty entries", false)
	}
}

func TestBatchWithAnRThatIsNothing(t *testing.T) {
	b := right(2)
	b.add(public(count(9)), []byte("abc"), signedWith(count(0), count(9), []byte("abc")))
	b.is(t, "R is nothing, and right", true)
	b.shifted(2, count(1)).is(t, "R is nothing, and z another", false)
}

func TestBatchWithTheSameTwice(t *testing.T) {
	b := right(3)
	b.add(b.publics[1], b.texts[1], b.signatures[1])
	b.is(t, "the same entry twice", true)
	for range 60 {
		b.add(b.publics[0], b.texts[0], b.signatures[0])
	}
	b.is(t, "the same entry 61 times", true)
	b.shifted(3, count(1)).is(t, "the same entry twice, and once another z", false)
	wrong := right(1).shifted(0, count(1))
	wrong.add(wrong.publics[0], wrong.texts[0], wrong.signatures[0])
	wrong.is(t, "the same wrong entry twice", false)
}

// With the same weights for all, or with those of a batch without faults, these would be true.
func TestBatchWithFaultsThatMakeUpForEachOther(t *testing.T) {
	b := right(4)
	b.add(b.publics[0], b.texts[0], b.signatures[0])
	for _, pair := range [][2]int{{0, 1}, {1, 0}, {1, 3}, {0, 4}, {4, 2}} {
		for _, by := range []*big.Int{count(1), ordinary("fault"), less(order(), count(1))} {
			b.shifted(pair[0], by).shifted(pair[1], less(order(), by)).is(t, "opposite faults", false)
		}
	}
	b.shifted(0, count(2)).shifted(1, less(order(), count(1))).is(t, "faults for the weights 1 and 2", false)
	b.shifted(0, count(1)).shifted(1, less(order(), count(2))).shifted(2, count(1)).is(t, "faults of three", false)
	bad := b.copied()
	bad.signatures[0], bad.signatures[1] = with(b.signatures[0], 33, b.signatures[1][33:]), with(b.signatures[1], 33, b.signatures[0][33:])
	bad.is(t, "two z exchanged", false)
	bad = b.copied()
	bad.signatures[0], bad.signatures[1] = bad.signatures[1], bad.signatures[0]
	bad.is(t, "two signatures exchanged", false)
}

func TestBatchInAnyOrder(t *testing.T) {
	b := right(5)
	slices.Reverse(b.publics)
	b.is(t, "publics in another order", false)
	slices.Reverse(b.texts)
	b.is(t, "publics and texts in another order", false)
	slices.Reverse(b.signatures)
	b.is(t, "all in another order", true)
}
