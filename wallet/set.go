package wallet

import (
	"bytes"

	"mintvault/api"
	"mintvault/curve"
	"mintvault/keys"
	"mintvault/parse"
)

const (
	seedSize = 32
	nameSize = 8
)

// isSet tells whether these can be a mint's keys.
func isSet(set api.Keyset) bool {
	if len(set.Name) != nameSize || len(set.Public) != api.Denominations {
		return false
	}
	_, ok := parse.All(curve.ReadSome, set.Public...)
	return ok
}

func copyOfSet(set api.Keyset) api.Keyset {
	c := api.Keyset{Name: bytes.Clone(set.Name)}
	for _, b := range set.Public {
		c.Public = append(c.Public, bytes.Clone(b))
	}
	return c
}

// public is the key of a denomination.
func (w *Wallet) public(amount uint64) []byte {
	place, _ := keys.Place(amount)
	return w.keys.Public[place]
}
