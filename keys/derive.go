package keys

import (
	"mintvault/scalar"
	"mintvault/sponge"
)

const (
	seedSize = 32
	maxPath  = 16
)

func isSeed(b []byte) bool { return len(b) == seedSize }

// derived goes down from a seed to a child, number by number; the label comes last, so that who knows a key of one label knows none of another.
func derived(seed []byte, label string, path ...uint32) []byte {
	k := seed
	for _, n := range path {
		k = sponge.Tag("child", [][]byte{k, numeral(n)})
	}
	return sponge.Tag("key", [][]byte{k, []byte(label)})
}

func numeral(n uint32) []byte { return []byte{byte(n >> 24), byte(n >> 16), byte(n >> 8), byte(n)} }

// scalarOf is never 0, which would be no key.
func scalarOf(b []byte) scalar.Scalar { return scalar.Spread(b).OrOne() }

// mintKey is that of the denomination at a place.
func mintKey(seed []byte, number uint32, place int) scalar.Scalar {
	return scalarOf(derived(seed, "mint", number, uint32(place)))
}
