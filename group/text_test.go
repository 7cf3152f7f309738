package group_test

import (
	"bytes"
	"math/big"
	"strconv"
	"strings"
	"testing"

	"mintvault/api"
	"mintvault/group"
)

func number(b []byte) *big.Int { return new(big.Int).SetBytes(b) }

func TestHashTo(t *testing.T) {
	labels := []string{"", " ", "value", "left", "point ", "point value", "\x00", "\xff\xfe", "länger", strings.Repeat("label ", 100)}
	for _, label := range labels {
		for _, b := range [][]byte{nil, {}, {0}, {1}, {255}, []byte("value"), {0, 0, 0, 7}, some(135, label), some(136, label), some(1000, label)} {
			want, _ := ofText(label, b)
			got, errno := group.HashTo(label, b)
			is(t, "G4: HashTo", got, errno, want)
		}
	}
}

func TestHashToExample(t *testing.T) {
	for _, b := range [][]byte{nil, {}} {
		got, errno := group.HashTo("value", b)
		begins(t, "G4: H", got, errno, "0228ec210a1aacff80c1b734e8c79f05b9146e9947eed74c4397a654a8a5897206")
	}
}

// A text gives a point only at a later number again and again: each such number comes up, and no earlier one is taken.
func TestHashToOfLaterNumbers(t *testing.T) {
	var seen [9]int
	for i := range 1200 {
		b := []byte(strconv.Itoa(i))
		want, number := ofText("later", b)
		seen[min(number, 8)]++
		got, errno := group.HashTo("later", b)
		is(t, "G4: HashTo", got, errno, want)
	}
	for i, n := range seen {
		if n == 0 {
			t.Errorf("G4: no text was tried whose point comes at number %d", i)
		}
	}
}

func TestHashToIsEven(t *testing.T) {
	for i := range byte(50) {
		if got, errno := group.HashTo("even", []byte{i}); errno != api.OK || got[0] != 2 || !group.Point(got) {
			t.Errorf("G4: HashTo: %x, %d", got, errno)
		}
	}
}

// Where the label ends and the bytes begin, hangs in the point.
func TestHashToTellsLabelAndBytesApart(t *testing.T) {
	seen := map[string][2]string{}
	for _, text := range [][2]string{{"", "ab"}, {"a", "b"}, {"ab", ""}, {"b", "a"}, {" ab", ""}, {"", "abc"}} {
		got, _ := group.HashTo(text[0], []byte(text[1]))
		if other, ok := seen[string(got)]; ok {
			t.Errorf("G4: %q and %q have the same point", text, other)
		}
		seen[string(got)] = text
	}
}

func TestCommit(t *testing.T) {
	h, _ := ofText("value", nil)
	few := []*big.Int{count(0), count(1), count(5), count(7), less(order(), count(1)), less(order(), count(2)), scalar("value"), scalar("blind")}
	for _, value := range few {
		for _, blind := range few {
			got, errno := group.Commit(of(value), of(blind))
			is(t, "G5: Commit", got, errno, h.times(value).plus(base().times(blind)))
		}
	}
}

func TestCommitExample(t *testing.T) {
	got, errno := group.Commit(of(count(5)), of(count(7)))
	begins(t, "G5: Commit of 5 with the blind 7", got, errno, "02be4e09c049a50a25f28e9899264f2a6c661185f9e25f7f60cb52c620d19de6fe")
	got, errno = group.Commit(of(count(0)), of(count(0)))
	is(t, "G5: Commit of 0 with the blind 0", got, errno, nil)
	got, errno = group.Commit(of(count(0)), of(count(1)))
	is(t, "G5: Commit of 0 with the blind 1", got, errno, base())
}

func TestCommitsAddUp(t *testing.T) {
	a, _ := group.Commit(of(count(5)), of(count(7)))
	b, _ := group.Commit(of(count(6)), of(less(order(), count(7))))
	got, errno := group.Plus(a, b)
	want, _ := group.Commit(of(count(11)), of(count(0)))
	if errno != api.OK || !bytes.Equal(got, want) {
		t.Errorf("G5: the sum of two: %x, %d, want %x", got, errno, want)
	}
}

func TestCommitOfNone(t *testing.T) {
	for _, n := range noScalars() {
		for _, other := range [][]byte{of(count(0)), of(count(1)), n, nil} {
			got, errno := group.Commit(n, other)
			fails(t, "G5: Commit, value", got, errno, api.ErrScalar)
			got, errno = group.Commit(other, n)
			fails(t, "G5: Commit, blind", got, errno, api.ErrScalar)
		}
	}
}
