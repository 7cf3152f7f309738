package mint

import (
	"bytes"

	"mintvault/api"
	"mintvault/blind"
	"mintvault/keys"
)

// setNumber is that of the only set of keys that a mint has.
const setNumber = 0

// key is that of a denomination.
func (m *Mint) key(amount uint64) []byte {
	k, _ := keys.Key(m.seed, setNumber, amount)
	return k
}

func (m *Mint) hasOrder(name string) bool {
	_, there := m.orders[name]
	return there
}

func (m *Mint) isSpent(secret []byte) bool {
	_, there := m.spent[string(secret)]
	return there
}

func (m *Mint) canSpend(t api.Token) bool { return !m.isSpent(t.Secret) }

func (m *Mint) hasNamed(t api.Token) bool { return bytes.Equal(t.Keys, m.set.Name) }

func (m *Mint) hasSigned(t api.Token) bool { return blind.Valid(m.key(t.Amount), t.Secret, t.Sign) }

// signed is the answer to a request. It is not kept: the same comes out each time.
func (m *Mint) signed(out []api.Hidden) []api.Signed {
	var l []api.Signed
	for _, h := range out {
		sign, proof, _ := blind.Sign(m.key(h.Amount), h.Point)
		l = append(l, api.Signed{Amount: h.Amount, Point: bytes.Clone(h.Point), Sign: sign, Proof: proof})
	}
	return l
}

func copied(l [][]byte) [][]byte {
	c := make([][]byte, len(l))
	for i, b := range l {
		c[i] = bytes.Clone(b)
	}
	return c
}
