package wallet

import (
	"bytes"
	"cmp"
	"slices"

	"mintvault/api"
	"mintvault/blind"
	"mintvault/keys"
)

// takeLeast are the first tokens that are worth at least an amount. The wallet has that much.
func (w *Wallet) takeLeast(amount uint64) []api.Token {
	n := 0
	for sum := uint64(0); sum < amount; n++ {
		sum += w.tokens[n].Amount
	}
	return w.tokens[:n]
}

// takeJust are tokens that are worth an amount, or less, if they do not make it.
func (w *Wallet) takeJust(amount uint64) []api.Token {
	sorted := slices.Clone(w.tokens)
	slices.SortStableFunc(sorted, func(a, b api.Token) int { return cmp.Compare(b.Amount, a.Amount) })
	var taken []api.Token
	for _, t := range sorted {
		if t.Amount <= amount {
			taken = append(taken, t)
			amount -= t.Amount
		}
	}
	return taken
}

// drop leaves the wallet without some of its tokens. No two of these have the same secret.
func (w *Wallet) drop(gone []api.Token) {
	secrets := secretsOf(gone)
	w.tokens = slices.DeleteFunc(slices.Clone(w.tokens), func(t api.Token) bool {
		_, there := secrets[string(t.Secret)]
		return there
	})
}

func secretsOf(l []api.Token) map[string]struct{} {
	secrets := map[string]struct{}{}
	for _, t := range l {
		secrets[string(t.Secret)] = struct{}{}
	}
	return secrets
}

func worth(l []api.Token) uint64 {
	sum := uint64(0)
	for _, t := range l {
		sum += t.Amount
	}
	return sum
}

func copyOfTokens(l []api.Token) []api.Token {
	var c []api.Token
	for _, t := range l {
		c = append(c, api.Token{Amount: t.Amount, Keys: bytes.Clone(t.Keys), Secret: bytes.Clone(t.Secret), Sign: bytes.Clone(t.Sign)})
	}
	return c
}

// isForeign tells whether a token is one of other keys, isOdd whether its amount is no denomination.
func (w *Wallet) isForeign(t api.Token) bool { return !bytes.Equal(t.Keys, w.keys.Name) }

func isOdd(t api.Token) bool {
	_, errno := keys.Place(t.Amount)
	return errno != api.OK
}

// isSigned tells whether that is the mint's answer to an output, tokenOf what comes of it.
func (w *Wallet) isSigned(o output, s api.Signed) bool {
	return s.Amount == o.amount && bytes.Equal(s.Point, o.point) && blind.Right(w.public(o.amount), o.point, s.Sign, s.Proof)
}

func (w *Wallet) tokenOf(o output, s api.Signed) api.Token {
	sign, _ := blind.Unblind(s.Sign, o.r, w.public(o.amount))
	return api.Token{Amount: o.amount, Keys: w.keys.Name, Secret: o.secret, Sign: sign}
}
