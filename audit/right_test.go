package audit_test

import (
	"bytes"
	"math/big"
	"slices"
	"strconv"
	"testing"

	"mintvault/api"
	"mintvault/audit"
	"mintvault/group"
)

func right(t *testing.T, what string, entry []byte, want bool) {
	t.Helper()
	if audit.Right(entry) != want {
		t.Errorf("A1: Right: %s: %v", what, !want)
	}
}

// ordinary is a right entry.
func ordinary() []byte { return entryOf(seed(), 3, api.Op{Kind: 2, In: 5, Out: below}) }

func TestRightOfOtherLengths(t *testing.T) {
	e := ordinary()
	right(t, "as it is", e, true)
	right(t, "nil", nil, false)
	right(t, "empty", []byte{}, false)
	for n := range e {
		right(t, strconv.Itoa(n)+" bytes", e[:n], false)
		right(t, "without the first bytes, "+strconv.Itoa(n)+" left", e[size-n:], false)
	}
	for _, n := range []int{1, 2, 33, 623, 656, size} {
		right(t, strconv.Itoa(n)+" more", append(bytes.Clone(e), make([]byte, n)...), false)
		right(t, strconv.Itoa(n)+" more ahead", append(make([]byte, n), e...), false)
	}
	right(t, "a proof more that is one", append(bytes.Clone(e), e[proofs:proofs+proof]...), false)
	right(t, "two of them", append(bytes.Clone(e), e...), false)
	right(t, "all 0", make([]byte, size), false)
	right(t, "a Kind, and all else 0", with(make([]byte, size), 0, 1), false)
	right(t, "all 255", bytes.Repeat([]byte{255}, size), false)
}

// The Kind is told, and not hidden: each one that is one is right.
func TestRightOfOtherKinds(t *testing.T) {
	for kind := range 256 {
		right(t, "the Kind "+strconv.Itoa(kind), with(ordinary(), 0, byte(kind)), kind >= 1 && kind <= 3)
	}
}

// noPoints are 33 bytes each.
func noPoints() [][]byte {
	g := group.Base()
	return [][]byte{
		with(g, 0, 0), with(g, 0, 1), with(g, 0, 4), with(g, 0, 255), with(nothing(), 0, 2), with(nothing(), 0, 3), with(nothing(), 32, 1),
		append([]byte{2}, small(5)...), append([]byte{3}, bytes.Repeat([]byte{255}, 32)...),
	}
}

func TestRightWithOtherCommitments(t *testing.T) {
	e := ordinary()
	for place := 1; place < proofs; place++ {
		right(t, "another byte "+strconv.Itoa(place), flipped(e, place), false)
	}
	for _, at := range []int{1, 34} {
		own := e[at : at+33]
		for _, b := range append(noPoints(), nothing(), group.Base(), ok(group.Minus(own)), ok(group.Plus(own, group.Base()))) {
			right(t, "another commitment", over(e, at, b), false)
		}
	}
	in, out := partOf(seed(), "in", 3, 5), partOf(seed(), "out", 3, below)
	for _, more := range []uint64{4, 6, 0} {
		other := in
		other.amount = more
		right(t, "the commitment of another amount", over(e, 1, other.commit()), false)
	}
	out.amount++
	right(t, "the commitment of an amount that is too great", over(e, 34, out.commit()), false)
}

// starts are the places where the parts of a proof begin; the last one is where it ends.
func starts() []int {
	all := []int{0, 1}
	for _, piece := range slices.Concat(slices.Repeat([]int{33}, 4), slices.Repeat([]int{32}, 3), slices.Repeat([]int{33}, 10), []int{32, 32}) {
		all = append(all, all[len(all)-1]+piece)
	}
	return all
}

func TestRightWithOtherProofs(t *testing.T) {
	e, all := ordinary(), starts()
	if last := all[len(all)-1]; last != proof {
		t.Fatalf("the parts of a proof end at %d", last)
	}
	for _, at := range []int{proofs, proofs + proof} {
		for i, from := range all[:len(all)-1] {
			to := all[i+1]
			what := "part " + strconv.Itoa(i) + " of the proof at " + strconv.Itoa(at)
			right(t, what+", its first byte", flipped(e, at+from), false)
			right(t, what+", its last byte", flipped(e, at+to-1), false)
			right(t, what+", all 0", over(e, at+from, make([]byte, to-from)), false)
			right(t, what+", all 255", over(e, at+from, bytes.Repeat([]byte{255}, to-from)), false)
			right(t, what+", Order at its end", over(e, at+to-min(32, to-from), whole(order())[:min(32, to-from)]), false)
		}
		for _, n := range []byte{0, 3, 4, 6, 7, 255} {
			right(t, "a proof that says another length", with(e, at, n), false)
		}
		other := entryOf(some(32, "another"), 3, api.Op{Kind: 2, In: 5, Out: below})
		right(t, "a proof of the same amount with another blind", over(e, at, other[at:at+proof]), false)
	}
}

func TestRightWithPartsChangedAbout(t *testing.T) {
	e := ordinary()
	commits := slices.Concat(e[34:67], e[1:34])
	both := slices.Concat(e[proofs+proof:], e[proofs:proofs+proof])
	right(t, "the two commitments", over(e, 1, commits), false)
	right(t, "the two proofs", over(e, proofs, both), false)
	right(t, "both: each proof is that of its commitment", over(over(e, 1, commits), proofs, both), true)
	right(t, "the first side twice", slices.Concat(e[:34], e[1:34], e[proofs:proofs+proof], e[proofs:proofs+proof]), true)
	right(t, "the first proof twice", over(e, proofs+proof, e[proofs:proofs+proof]), false)
	right(t, "the second proof twice", over(e, proofs, e[proofs+proof:]), false)
	right(t, "a proof ahead of the commitments", slices.Concat(e[:1], e[proofs:proofs+proof], e[1:67], e[proofs+proof:]), false)
	right(t, "proofs behind their commitments", slices.Concat(e[:34], e[proofs:proofs+proof], e[34:67], e[proofs+proof:]), false)
}

// What is right hangs on no seed: entries that were made with any blinds are.
func TestRightWithAnyBlinds(t *testing.T) {
	last := whole(new(big.Int).Sub(order(), big.NewInt(1)))
	for _, blind := range [][]byte{small(0), small(1), last} {
		right(t, "made by hand", laid(3, part{0, blind, make([]byte, 32)}, part{7, blind, seed()}), true)
	}
	if e := laid(1, part{0, small(0), seed()}, part{0, small(0), seed()}); !bytes.Equal(e[1:67], make([]byte, 66)) || !audit.Right(e) {
		t.Error("A1: Right: commitments that are nothing are points")
	}
}
