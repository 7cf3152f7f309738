package audit_test

import (
	"bytes"
	"math/big"
	"slices"
	"strconv"
	"testing"

	"mintvault/api"
	"mintvault/audit"
	"mintvault/tree"
)

// rightBooks are those of several operations.
func rightBooks() books { return closed(seed(), 85, several()...) }

// wrongly holds books that are changed in one thing.
func wrongly(t *testing.T, what string, change func(*books)) {
	t.Helper()
	rightBooks().changed(change).is(t, what, false)
}

func TestCheck(t *testing.T) {
	for n, total := range []uint64{0, 100, 100, 85, 85} {
		closed(seed(), total, several()[:n]...).is(t, strconv.Itoa(n)+" entries", true)
	}
}

func TestCheckWithAnotherCount(t *testing.T) {
	for _, n := range []int{0, 1, 3, 5, -1, -4, 64, 65, 1<<32 + 4, -1 << 63, 1<<63 - 1} {
		wrongly(t, "a Count of "+strconv.Itoa(n), func(b *books) { b.closing.Count = n })
	}
}

func TestCheckWithAnotherRoot(t *testing.T) {
	for place := range 32 {
		wrongly(t, "another byte of the Root", func(b *books) { b.closing.Root = flipped(b.closing.Root, place) })
	}
	b := rightBooks()
	none, _ := tree.Root(nil)
	for _, root := range [][]byte{nil, {}, b.closing.Root[:31], b.closing.Root[1:], append(bytes.Clone(b.closing.Root), 0), make([]byte, 32), none, b.entries[0], some(1<<16, "root")} {
		wrongly(t, "another Root", func(b *books) { b.closing.Root = root })
	}
}

func TestCheckWithAnotherTotal(t *testing.T) {
	for _, total := range []uint64{0, 1, 84, 86, 100, 85 + 1<<32, 1 << 63, 1<<63 + 85, 1<<64 - 1, 1<<64 - 85} {
		wrongly(t, "another Total", func(b *books) { b.closing.Total = total })
	}
}

func TestCheckWithAnotherBlind(t *testing.T) {
	b := rightBooks()
	n := number(b.closing.Blind)
	for _, other := range []*big.Int{new(big.Int), big.NewInt(1), new(big.Int).Add(n, big.NewInt(1)), new(big.Int).Sub(n, big.NewInt(1)), new(big.Int).Neg(n)} {
		wrongly(t, "another Blind", func(b *books) { b.closing.Blind = of(other) })
	}
	for _, place := range []int{0, 1, 15, 16, 30, 31} {
		wrongly(t, "another byte of the Blind", func(b *books) { b.closing.Blind = flipped(b.closing.Blind, place) })
	}
	for _, none := range [][]byte{nil, {}, b.closing.Blind[:31], b.closing.Blind[1:], append(bytes.Clone(b.closing.Blind), 0), append([]byte{0}, b.closing.Blind...), whole(order()), bytes.Repeat([]byte{255}, 32)} {
		wrongly(t, "a Blind that is none", func(b *books) { b.closing.Blind = none })
	}
}

// byHand is books of one entry, of which the blinds are small; and so is their sum.
func byHand(in, out uint64, blind int64) books {
	e := laid(1, part{in, small(5), seed()}, part{out, small(5 + blind), seed()})
	return books{[][]byte{e}, api.Closing{Count: 1, Total: out - in, Blind: small(blind)}}.rooted()
}

// A number that is the Blind only modulo Order is no scalar.
func TestCheckWithABlindThatIsNoScalar(t *testing.T) {
	for _, blind := range []int64{0, 1, 3} {
		b := byHand(2, 9, blind)
		b.is(t, "made by hand", true)
		b.changed(func(b *books) { b.closing.Blind = b.closing.Blind[1:] }).is(t, "a Blind of 31 bytes", false)
		b.changed(func(b *books) { b.closing.Blind = append(make([]byte, 1), b.closing.Blind...) }).is(t, "a Blind of 33 bytes", false)
		b.changed(func(b *books) { b.closing.Blind = whole(new(big.Int).Add(order(), big.NewInt(blind))) }).is(t, "a Blind and Order", false)
	}
	byHand(2, 9, -3).is(t, "a Blind below 0", true)
	none := closed(seed(), 0)
	none.changed(func(b *books) { b.closing.Blind = whole(order()) }).is(t, "Order, where the Blind is 0", false)
	none.changed(func(b *books) { b.closing.Blind = nil }).is(t, "none, where the Blind is 0", false)
	none.changed(func(b *books) { b.closing.Blind = make([]byte, 31) }).is(t, "31 bytes, where the Blind is 0", false)
	none.changed(func(b *books) { b.closing.Blind = make([]byte, 33) }).is(t, "33 bytes, where the Blind is 0", false)
}

// If more came in than went out, no Total is right: what it is more is no number below 2^64 modulo Order.
func TestCheckOfLessThanNothing(t *testing.T) {
	byHand(9, 9, 3).is(t, "as much", true)
	b := byHand(9, 8, 3)
	for _, total := range []uint64{0, 1, 8, 9, below, 1 << 32, 1 << 63, 1<<64 - 1} {
		b.closing.Total = total
		b.is(t, "more came in", false)
	}
}

// What came in counts against what went out, and not the other way round.
func TestCheckWithSidesChangedAbout(t *testing.T) {
	in, out := part{2, small(5), seed()}, part{9, small(6), seed()}
	b := books{[][]byte{laid(1, out, in)}, api.Closing{Count: 1, Total: 7, Blind: small(1)}}.rooted()
	b.is(t, "the two sides", false)
	b.entries[0] = laid(1, in, out)
	b.rooted().is(t, "as they are", true)
}

func TestCheckOfFewer(t *testing.T) {
	for place := range 4 {
		fewer := func(b *books) { b.entries = slices.Delete(b.entries, place, place+1) }
		counted := func(b *books) { fewer(b); b.closing.Count-- }
		wrongly(t, "one entry fewer", fewer)
		wrongly(t, "one entry fewer, and counted", counted)
		wrongly(t, "one entry fewer, counted and with its root", func(b *books) { counted(b); *b = b.rooted() })
	}
	wrongly(t, "none", func(b *books) { b.entries = nil })
	wrongly(t, "none, counted and with its root", func(b *books) { b.entries, b.closing.Count = nil, 0; *b = b.rooted() })
}

// An entry that moves nothing, with no blinds, can be laid beside the others; but it must be counted, and in the root.
func TestCheckOfMore(t *testing.T) {
	idle := laid(2, part{0, small(0), seed()}, part{0, small(0), seed()})
	for _, place := range []int{0, 2, 4} {
		for _, e := range [][]byte{rightBooks().entries[1], entryOf(seed(), 4, api.Op{Kind: 2, In: 9, Out: 9}), idle} {
			more := func(b *books) { b.entries = slices.Insert(b.entries, place, e) }
			counted := func(b *books) { more(b); b.closing.Count++ }
			wrongly(t, "one entry more", more)
			wrongly(t, "one entry more, and counted", counted)
			wrongly(t, "one entry more, and with its root", func(b *books) { more(b); *b = b.rooted() })
			rightBooks().changed(func(b *books) { counted(b); *b = b.rooted() }).is(t, "one entry more, counted and with its root", bytes.Equal(e, idle))
		}
	}
}

func TestCheckOfOnesChangedAbout(t *testing.T) {
	for i := range 4 {
		for j := range i {
			about := func(b *books) { b.entries[i], b.entries[j] = b.entries[j], b.entries[i] }
			wrongly(t, "two entries changed about", about)
			rightBooks().changed(func(b *books) { about(b); *b = b.rooted() }).is(t, "two entries changed about, with their root", true)
			twice := func(b *books) { b.entries[i] = b.entries[j] }
			wrongly(t, "an entry twice", twice)
			wrongly(t, "an entry twice, with their root", func(b *books) { twice(b); *b = b.rooted() })
		}
	}
}

// Each entry must be Right, though all else be as it should.
func TestCheckOfOneThatIsNotRight(t *testing.T) {
	for i := range 4 {
		for _, place := range []int{0, 1, 33, 34, 66, 67, 68, 67 + 622, 67 + 623, 67 + 624, 1312} {
			turned := func(b *books) { b.entries[i][place] ^= 4 }
			wrongly(t, "another byte", turned)
			wrongly(t, "another byte, with its root", func(b *books) { turned(b); *b = b.rooted() })
		}
		for _, e := range [][]byte{nil, {}, {1}, make([]byte, 1313), rightBooks().entries[i][:1312], append(rightBooks().entries[i], 0)} {
			wrongly(t, "none, with its root", func(b *books) { b.entries[i] = e; *b = b.rooted() })
		}
		kind := func(b *books) { b.entries[i][0] = b.entries[i][0]%3 + 1 }
		wrongly(t, "another Kind", kind)
		rightBooks().changed(func(b *books) { kind(b); *b = b.rooted() }).is(t, "another Kind, with its root", true)
	}
}

// Amounts that are moved between the entries keep the sum: then the proofs alone do not fit.
func TestCheckOfSumsWithoutProofs(t *testing.T) {
	b := rightBooks()
	first, second := b.entries[0], b.entries[1]
	b.entries[0], b.entries[1] = over(first, 34, second[34:67]), over(second, 34, first[34:67])
	b.rooted().is(t, "the commitments of two entries changed about", false)
}

// repeated is books of one entry n times: all of it is right, as long as they are no more than 64.
func repeated(n int) books {
	b := byHand(2, 9, 3)
	b.entries = slices.Repeat(b.entries, n)
	b.closing = api.Closing{Count: n, Total: 7 * uint64(n), Blind: small(3 * int64(n))}
	return b.rooted()
}

func TestCheckOfMany(t *testing.T) {
	for _, n := range []int{0, 1, 2, 63, 64} {
		repeated(n).is(t, strconv.Itoa(n)+" entries", true)
	}
	for _, n := range []int{65, 66, 128, 1024, 1025} {
		repeated(n).is(t, strconv.Itoa(n)+" entries", false)
	}
	b := repeated(65)
	b.closing.Count = 64
	b.is(t, "65 entries, of which 64 are counted", false)
}

func TestCheckOfNone(t *testing.T) {
	b := closed(seed(), 0)
	for _, entries := range [][][]byte{nil, {}, rightBooks().entries[:0]} {
		b.entries = entries
		b.is(t, "no entries", true)
		if audit.Check(entries, api.Closing{}) {
			t.Error("A3: no entries, and no closing")
		}
		for _, change := range []func(*api.Closing){
			func(c *api.Closing) { c.Count = 1 },
			func(c *api.Closing) { c.Count = -1 },
			func(c *api.Closing) { c.Root = nil },
			func(c *api.Closing) { c.Root = make([]byte, 32) },
			func(c *api.Closing) { c.Total = 1 },
			func(c *api.Closing) { c.Blind = small(1) },
			func(c *api.Closing) { c.Blind = nil },
		} {
			c := b.closing
			change(&c)
			books{entries, c}.is(t, "no entries, and another closing", false)
		}
	}
	books{[][]byte{nil}, api.Closing{Count: 1, Blind: small(0)}}.rooted().is(t, "an entry that is nil", false)
	books{[][]byte{{}}, api.Closing{Count: 1, Blind: small(0)}}.rooted().is(t, "an entry that is empty", false)
}
