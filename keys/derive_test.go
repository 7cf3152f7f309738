package keys_test

import (
	"bytes"
	"encoding/hex"
	"strings"
	"testing"

	"mintvault/api"
	"mintvault/keys"
)

func TestDerive(t *testing.T) {
	for _, seed := range seeds() {
		for _, label := range labels() {
			for _, path := range paths() {
				got, errno := keys.Derive(seed, label, path)
				is(t, "K1: Derive", got, errno, derived(seed, label, path...))
			}
		}
	}
}

func TestDeriveAsTheDocumentTells(t *testing.T) {
	got, errno := keys.Derive(bytes.Repeat([]byte{7}, 32), "token", []uint32{0})
	if errno != api.OK || len(got) != 32 || hex.EncodeToString(got[:8]) != "562cd746b4ee08e9" {
		t.Errorf("K1: Derive of 07, token, 0: %x, %d", got, errno)
	}
}

// One number and the label, step by step, as the document's words give them.
func TestDeriveByHand(t *testing.T) {
	seed := some(32, "seed")
	got, errno := keys.Derive(seed, "a", nil)
	is(t, "K1: Derive without numbers", got, errno, tag("key", seed, []byte("a")))
	one := tag("child", seed, []byte{1, 2, 3, 4})
	got, errno = keys.Derive(seed, "a", []uint32{0x01020304})
	is(t, "K1: Derive of a number", got, errno, tag("key", one, []byte("a")))
	two := tag("child", one, []byte{255, 255, 255, 255})
	got, errno = keys.Derive(seed, "a", []uint32{0x01020304, 0xffffffff})
	is(t, "K1: Derive of two numbers", got, errno, tag("key", two, []byte("a")))
}

// Whatever changes in what is handed in changes what is derived.
func TestDerivedDiffer(t *testing.T) {
	seen := map[string]bool{}
	count := 0
	for _, seed := range seeds() {
		for _, label := range labels() {
			for _, path := range paths()[1:] {
				b, _ := keys.Derive(seed, label, path)
				s, _ := keys.Scalar(seed, label, path)
				seen[string(b)], seen[string(s)] = true, true
				count += 2
			}
		}
	}
	if len(seen) != count {
		t.Errorf("K1, K2: of %d answers %d are the same as others", count, count-len(seen))
	}
}

func TestScalar(t *testing.T) {
	for _, seed := range seeds() {
		for _, label := range labels() {
			for _, path := range paths() {
				got, errno := keys.Scalar(seed, label, path)
				is(t, "K2: Scalar", got, errno, scalarOf(derived(seed, label, path...)))
			}
		}
	}
}

// What is wrong with the seed is told ahead of what is wrong with the path.
func TestNoSeed(t *testing.T) {
	for _, seed := range noSeeds() {
		for _, path := range append(paths(), longPaths()...) {
			for _, label := range []string{"", "mint", strings.Repeat("\xff", 300)} {
				got, errno := keys.Derive(seed, label, path)
				fails(t, "K1: Derive of no seed", got, errno, api.ErrForm)
				got, errno = keys.Scalar(seed, label, path)
				fails(t, "K2: Scalar of no seed", got, errno, api.ErrForm)
			}
		}
	}
}

func TestLongPath(t *testing.T) {
	for _, seed := range seeds() {
		for _, path := range longPaths() {
			for _, label := range labels() {
				got, errno := keys.Derive(seed, label, path)
				fails(t, "K1: Derive of a long path", got, errno, api.ErrLong)
				got, errno = keys.Scalar(seed, label, path)
				fails(t, "K2: Scalar of a long path", got, errno, api.ErrLong)
			}
		}
	}
}
