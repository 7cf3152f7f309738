package audit_test

import (
	"bytes"
	"testing"

	"mintvault/api"
	"mintvault/audit"
)

func makes(t *testing.T, seed []byte, i int, op api.Op) []byte {
	t.Helper()
	e, errno := audit.Entry(seed, i, op)
	if want := entryOf(seed, i, op); errno != api.OK || len(e) != size || !bytes.Equal(e, want) {
		t.Errorf("A1: Entry %d of %+v: %d bytes, %d: %x, want %x", i, op, len(e), errno, e, want)
	}
	if !audit.Right(e) {
		t.Errorf("A1: entry %d of %+v is not Right", i, op)
	}
	return e
}

func TestEntry(t *testing.T) {
	for i, op := range []api.Op{{Kind: api.Issue, Out: 100}, {Kind: api.Swap, In: 30, Out: 30}, {Kind: api.Pay, In: 20, Out: 5}, {Kind: 1, In: 5}} {
		if e := makes(t, seed(), i, op); int(e[0]) != op.Kind {
			t.Errorf("A1: the Kind of %+v: %d", op, e[0])
		}
	}
	for _, s := range [][]byte{make([]byte, 32), bytes.Repeat([]byte{255}, 32)} {
		makes(t, s, 77, api.Op{Kind: 2, In: 0xdeadbeef, Out: 0x12345678})
	}
}

func TestEntryAtItsEdges(t *testing.T) {
	for _, i := range []int{0, 1, 1<<20 - 1} {
		makes(t, seed(), i, api.Op{Kind: 3, In: 1, Out: below})
	}
	for _, amount := range []uint64{0, below} {
		makes(t, seed(), 5, api.Op{Kind: 1, In: amount, Out: 7})
		makes(t, seed(), 5, api.Op{Kind: 1, In: 7, Out: amount})
		makes(t, seed(), 5, api.Op{Kind: 1, In: amount, Out: amount})
	}
}

// Entries of the same operation with other numbers or seeds have nothing in common but the Kind.
func TestEntriesAreHidden(t *testing.T) {
	op := api.Op{Kind: 2, In: 9, Out: 9}
	a, b, c := makes(t, seed(), 0, op), makes(t, seed(), 1, op), makes(t, some(32, "another"), 0, op)
	all := map[string]int{}
	for _, e := range [][]byte{a, b, c} {
		all[string(e[1:34])]++
		all[string(e[34:67])]++
		all[string(e[proofs:proofs+proof])]++
		all[string(e[proofs+proof:])]++
	}
	if len(all) != 12 {
		t.Errorf("A1: of 12 commitments and proofs %d are different", len(all))
	}
}

func refuses(t *testing.T, what string, seed []byte, i int, op api.Op, want api.Errno) {
	t.Helper()
	if e, errno := audit.Entry(seed, i, op); errno != want || len(e) != 0 {
		t.Errorf("A1: Entry, %s: number %d, %+v: %d bytes, %d, want %d", what, i, op, len(e), errno, want)
	}
}

func TestEntryWithOtherSeeds(t *testing.T) {
	for _, s := range otherSeeds() {
		refuses(t, "a seed", s, 0, api.Op{Kind: 1}, api.ErrForm)
		refuses(t, "a seed and a Kind", s, 0, api.Op{Kind: 4}, api.ErrForm)
		refuses(t, "a seed and a number", s, -1, api.Op{Kind: 1}, api.ErrForm)
		refuses(t, "a seed and an amount", s, 0, api.Op{Kind: 1, In: 1 << 32}, api.ErrForm)
		refuses(t, "a seed and an amount", s, 0, api.Op{Kind: 1, Out: 1 << 32}, api.ErrForm)
		refuses(t, "all", s, 1<<20, api.Op{Kind: 0, In: 1 << 32, Out: 1 << 32}, api.ErrForm)
	}
}

func TestEntryOfOtherKinds(t *testing.T) {
	for _, kind := range otherKinds() {
		refuses(t, "a Kind", seed(), 0, api.Op{Kind: kind}, api.ErrForm)
		refuses(t, "a Kind and a number", seed(), -1, api.Op{Kind: kind}, api.ErrForm)
		refuses(t, "a Kind and a number", seed(), 1<<20, api.Op{Kind: kind}, api.ErrForm)
		refuses(t, "a Kind and an amount", seed(), 0, api.Op{Kind: kind, In: 1 << 32}, api.ErrForm)
		refuses(t, "a Kind and an amount", seed(), 0, api.Op{Kind: kind, Out: 1 << 32}, api.ErrForm)
	}
}

func TestEntryWithOtherNumbers(t *testing.T) {
	for _, i := range otherNumbers() {
		for kind := 1; kind <= 3; kind++ {
			refuses(t, "a number", seed(), i, api.Op{Kind: kind}, api.ErrRange)
			refuses(t, "a number and an amount", seed(), i, api.Op{Kind: kind, In: 1 << 32}, api.ErrRange)
		}
	}
}

func TestEntryOfGreatAmounts(t *testing.T) {
	for _, amount := range greatAmounts() {
		for _, other := range []uint64{0, 1, below, 1 << 32} {
			refuses(t, "In", seed(), 0, api.Op{Kind: 1, In: amount, Out: other}, api.ErrRange)
			refuses(t, "Out", seed(), 1<<20-1, api.Op{Kind: 3, In: other, Out: amount}, api.ErrRange)
		}
	}
}
