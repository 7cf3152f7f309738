package keys_test

import (
	"bytes"
	"encoding/hex"
	"slices"
	"testing"

	"mintvault/api"
	"mintvault/keys"
)

func TestPlace(t *testing.T) {
	if len(amounts()) != api.Denominations {
		t.Fatalf("K3: %d denominations", len(amounts()))
	}
	for i, amount := range amounts() {
		if got, errno := keys.Place(amount); errno != api.OK || got != i {
			t.Errorf("K3: Place of %d: %d, %d", amount, got, errno)
		}
	}
	for _, amount := range noAmounts() {
		if got, errno := keys.Place(amount); errno != api.ErrRange || got != 0 {
			t.Errorf("K3: Place of %d: %d, %d", amount, got, errno)
		}
	}
}

// All amounts to far behind the largest denomination.
func TestPlaces(t *testing.T) {
	next := 0
	for amount := range uint64(3 << 20) {
		want, wantErrno := 0, api.ErrRange
		if next < len(amounts()) && amount == amounts()[next] {
			want, wantErrno = next, api.OK
			next++
		}
		if got, errno := keys.Place(amount); errno != wantErrno || got != want {
			t.Fatalf("K3: Place of %d: %d, %d", amount, got, errno)
		}
	}
}

func TestKey(t *testing.T) {
	for _, seed := range seeds() {
		for _, number := range numbers() {
			for i, amount := range amounts() {
				got, errno := keys.Key(seed, number, amount)
				is(t, "K3: Key", got, errno, scalarOf(derived(seed, "mint", number, uint32(i))))
			}
		}
	}
}

// What is wrong with the seed is told ahead of what is wrong with the amount.
func TestNoKey(t *testing.T) {
	for _, number := range numbers() {
		for _, amount := range noAmounts() {
			for _, seed := range seeds() {
				got, errno := keys.Key(seed, number, amount)
				fails(t, "K3: Key of no amount", got, errno, api.ErrRange)
			}
		}
		for _, seed := range noSeeds() {
			for _, amount := range append(amounts(), noAmounts()...) {
				got, errno := keys.Key(seed, number, amount)
				fails(t, "K3: Key of no seed", got, errno, api.ErrForm)
			}
		}
	}
}

func TestSet(t *testing.T) {
	names := map[string]bool{}
	for _, seed := range seeds() {
		for _, number := range numbers() {
			set, errno := keys.Set(seed, number)
			if len(set.Public) != 20 {
				t.Fatalf("K4: Set has %d keys, %d", len(set.Public), errno)
			}
			is(t, "K4: the name of a set", set.Name, errno, tag("keyset", set.Public...)[:8])
			for i, public := range set.Public {
				is(t, "K4: a public key", public, errno, times(scalarOf(derived(seed, "mint", number, uint32(i)))))
				key, _ := keys.Key(seed, number, amounts()[i])
				is(t, "K4: a public key, by Key", public, errno, times(key))
			}
			names[string(set.Name)] = true
		}
	}
	if len(names) != len(seeds())*len(numbers()) {
		t.Errorf("K4: there are %d names", len(names))
	}
}

func TestSetAsTheDocumentTells(t *testing.T) {
	set, errno := keys.Set(make([]byte, 32), 0)
	if errno != api.OK || hex.EncodeToString(set.Name) != "b05cf4948ad3ce72" || hex.EncodeToString(set.Public[0]) != "0321907ea129e922f543bc8ebef38c75f41a4931f8d9d328675b47d051867f387e" {
		t.Errorf("K4: Set of 0, 0: %x, %d", set, errno)
	}
}

func TestNoSet(t *testing.T) {
	for _, seed := range noSeeds() {
		for _, number := range numbers() {
			if set, errno := keys.Set(seed, number); errno != api.ErrForm || len(set.Name) != 0 || len(set.Public) != 0 {
				t.Errorf("K4: Set of no seed: %x, %d", set, errno)
			}
		}
	}
}

// What hangs on nothing but what is handed in is the same again.
func TestSetAgain(t *testing.T) {
	one, _ := keys.Set(some(32, "seed"), 5)
	keys.Set(some(32, "seed"), 6)
	keys.Set(some(32, "other seed"), 5)
	two, _ := keys.Set(some(32, "seed"), 5)
	if !bytes.Equal(one.Name, two.Name) || !slices.EqualFunc(one.Public, two.Public, bytes.Equal) {
		t.Errorf("E1: Set answers %x, then %x", one, two)
	}
}
