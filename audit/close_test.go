package audit_test

import (
	"bytes"
	"encoding/hex"
	"slices"
	"strconv"
	"testing"

	"mintvault/api"
	"mintvault/audit"
	"mintvault/tree"
)

func closes(t *testing.T, what string, seed []byte, total uint64, ops ...api.Op) books {
	t.Helper()
	entries, closing, errno := audit.Close(seed, ops)
	got, want := books{entries, closing}, closed(seed, total, ops...)
	if errno != api.OK || !got.same(want) {
		t.Errorf("A2: Close, %s: %d entries, %+v, %d, want %d, %+v", what, len(entries), closing, errno, len(want.entries), want.closing)
	}
	got.is(t, what, true)
	return got
}

// several has operations of each Kind.
func several() []api.Op {
	return []api.Op{{Kind: 1, Out: 100}, {Kind: 2, In: 30, Out: 30}, {Kind: 3, In: 20, Out: 5}, {Kind: 2, In: 64, Out: 64}}
}

func TestClose(t *testing.T) {
	for n, total := range []uint64{0, 100, 100, 85, 85} {
		closes(t, strconv.Itoa(n)+" operations", seed(), total, several()[:n]...)
	}
	closes(t, "another seed", make([]byte, 32), 85, several()...)
	for kind := 1; kind <= 3; kind++ {
		closes(t, "one of the Kind "+strconv.Itoa(kind), seed(), 4, api.Op{Kind: kind, In: 3, Out: 7})
	}
}

func TestCloseOfNone(t *testing.T) {
	for _, ops := range [][]api.Op{nil, {}, several()[:0]} {
		entries, c, errno := audit.Close(seed(), ops)
		if errno != api.OK || len(entries) != 0 || c.Count != 0 || c.Total != 0 || !bytes.Equal(c.Blind, make([]byte, 32)) {
			t.Errorf("A2: no operations: %d entries, %+v, %d", len(entries), c, errno)
		}
		if root, _ := tree.Root(nil); !bytes.Equal(c.Root, root) {
			t.Errorf("A2: no operations: the root %s", hex.EncodeToString(c.Root))
		}
	}
}

// The same operation hides behind other blinds at another place.
func TestCloseOfTheSameTwice(t *testing.T) {
	op := api.Op{Kind: 2, In: 9, Out: 9}
	b := closes(t, "the same twice", seed(), 0, op, op)
	if len(b.entries) == 2 && bytes.Equal(b.entries[0], b.entries[1]) {
		t.Error("A2: two entries are the same")
	}
}

func TestSums(t *testing.T) {
	closes(t, "the same", seed(), 0, api.Op{Kind: 1, In: 5, Out: 5})
	closes(t, "one more", seed(), 1, api.Op{Kind: 1, In: 5, Out: 6})
	closes(t, "more comes in at first", seed(), 1, api.Op{Kind: 1, In: 6, Out: 5}, api.Op{Kind: 1, Out: 2})
	closes(t, "more comes in at last", seed(), 0, api.Op{Kind: 1, Out: 2}, api.Op{Kind: 3, In: 2})
	closes(t, "great ones", seed(), 3*below-7, api.Op{Kind: 1, Out: below}, api.Op{Kind: 2, Out: below}, api.Op{Kind: 3, In: 7, Out: below})
	closes(t, "great ones on both sides", seed(), 0, api.Op{Kind: 1, In: below, Out: below}, api.Op{Kind: 2, Out: below}, api.Op{Kind: 3, In: below})
}

func failsClose(t *testing.T, what string, seed []byte, want api.Errno, ops ...api.Op) {
	t.Helper()
	entries, closing, errno := audit.Close(seed, ops)
	if b := (books{entries, closing}); errno != want || !isNone(b) {
		t.Errorf("A2: Close, %s: %+v, %d, want %d", what, b, errno, want)
	}
}

func TestSumsThatAreWrong(t *testing.T) {
	fails := func(what string, ops ...api.Op) { t.Helper(); failsClose(t, what, seed(), api.ErrSum, ops...) }
	fails("one less", api.Op{Kind: 1, In: 6, Out: 5})
	fails("nothing goes out", api.Op{Kind: 2, In: 1})
	fails("much less", api.Op{Kind: 3, In: below})
	fails("two", api.Op{Kind: 1, Out: 5}, api.Op{Kind: 3, In: 6})
	fails("two, the other way round", api.Op{Kind: 3, In: 6}, api.Op{Kind: 1, Out: 5})
	fails("great ones", api.Op{Kind: 1, In: below}, api.Op{Kind: 1, In: 2, Out: 1}, api.Op{Kind: 1, Out: below})
	fails("more than 32 bits", api.Op{Kind: 1, In: below}, api.Op{Kind: 1, In: 1, Out: 5})
	fails("64 of the greatest", slices.Repeat([]api.Op{{Kind: 1, In: below}}, 64)...)
	fails("64 of which one is one too many", append(slices.Repeat([]api.Op{{Kind: 2, In: below, Out: below}}, 63), api.Op{Kind: 2, In: 1})...)
}

func TestCloseWithOtherSeeds(t *testing.T) {
	for _, s := range otherSeeds() {
		failsClose(t, "a seed", s, api.ErrForm)
		failsClose(t, "a seed", s, api.ErrForm, several()...)
		failsClose(t, "a seed and too many", s, api.ErrForm, make([]api.Op, 65)...)
		failsClose(t, "a seed and an operation", s, api.ErrForm, api.Op{Kind: 1, In: 1 << 32})
		failsClose(t, "a seed and sums", s, api.ErrForm, api.Op{Kind: 1, In: 1})
	}
}

func TestCloseOfTooMany(t *testing.T) {
	for _, n := range []int{65, 66, 100, 1000} {
		failsClose(t, "too many", seed(), api.ErrLong, slices.Repeat([]api.Op{{Kind: 1, Out: 1}}, n)...)
		failsClose(t, "too many and operations", seed(), api.ErrLong, make([]api.Op, n)...)
		failsClose(t, "too many and amounts", seed(), api.ErrLong, slices.Repeat([]api.Op{{Kind: 1, Out: 1 << 32}}, n)...)
		failsClose(t, "too many and sums", seed(), api.ErrLong, slices.Repeat([]api.Op{{Kind: 1, In: 1}}, n)...)
	}
}

// bad is an operation that is wrong, and what Entry says of it.
type bad struct {
	op   api.Op
	want api.Errno
}

func bads() []bad {
	var all []bad
	for _, kind := range otherKinds() {
		all = append(all, bad{api.Op{Kind: kind, Out: 1}, api.ErrForm})
	}
	for _, amount := range greatAmounts() {
		all = append(all, bad{api.Op{Kind: 1, In: amount}, api.ErrRange}, bad{api.Op{Kind: 3, Out: amount}, api.ErrRange}, bad{api.Op{Kind: 2, In: amount, Out: amount}, api.ErrRange})
	}
	return append(all, bad{api.Op{Kind: 4, In: 1 << 32}, api.ErrForm}, bad{api.Op{In: 5, Out: 1 << 32}, api.ErrForm})
}

func TestCloseOfWrongOperations(t *testing.T) {
	for _, x := range bads() {
		if _, errno := audit.Entry(seed(), 0, x.op); errno != x.want {
			t.Errorf("A1: Entry of %+v: %d", x.op, errno)
		}
		failsClose(t, "one alone", seed(), x.want, x.op)
		for place := range 5 {
			failsClose(t, "one at "+strconv.Itoa(place), seed(), x.want, slices.Insert(several(), place, x.op)...)
		}
		many := slices.Repeat([]api.Op{{Kind: 1, Out: 1}}, 63)
		failsClose(t, "the last one of 64", seed(), x.want, append(many, x.op)...)
		failsClose(t, "the first one of 64", seed(), x.want, append([]api.Op{x.op}, many...)...)
		failsClose(t, "one, and sums behind it", seed(), x.want, x.op, api.Op{Kind: 1, In: 1})
		failsClose(t, "one, and sums ahead of it", seed(), x.want, api.Op{Kind: 1, In: below}, x.op)
		for _, y := range bads() {
			failsClose(t, "two", seed(), x.want, x.op, y.op)
			failsClose(t, "two, others around them", seed(), x.want, several()[0], x.op, several()[1], y.op, several()[2])
		}
	}
}

func TestCloseOfMany(t *testing.T) {
	var ops []api.Op
	for i := range 64 {
		ops = append(ops, api.Op{Kind: i%3 + 1, In: uint64(i), Out: below})
	}
	entries, closing, errno := audit.Close(seed(), ops)
	if errno != api.OK || len(entries) != 64 || closing.Count != 64 || closing.Total != 64*below-64*63/2 {
		t.Fatalf("A2: 64 operations: %d entries, %+v, %d", len(entries), closing, errno)
	}
	for _, i := range []int{0, 1, 31, 62, 63} {
		if !bytes.Equal(entries[i], entryOf(seed(), i, ops[i])) {
			t.Errorf("A2: entry %d of 64", i)
		}
	}
	b := books{entries, closing}
	if !b.same(b.rooted()) {
		t.Error("A2: the root over 64 entries")
	}
	b.is(t, "64 entries", true)
	b.changed(func(b *books) { b.closing.Total++ }).is(t, "64 entries, another Total", false)
	b.changed(func(b *books) { b.entries[63][size-1] ^= 1; *b = b.rooted() }).is(t, "64 entries, the last one is not Right", false)
}
