package wallet

import (
	"bytes"
	"cmp"
	"slices"

	"mintvault/api"
	"mintvault/blind"
	"mintvault/keys"
)

// takeLeast are the places of the first tokens that are worth at least an amount. The wallet has that much.
func (w *Wallet) takeLeast(amount uint64) []int {
	var places []int
	for sum := uint64(0); sum < amount; {
		n := len(places)
		places = append(places, n)
		sum += w.tokens[n].Amount
	}
	return places
}

// takeJust are the places of tokens that are worth an amount, or less, if they do not make it.
func (w *Wallet) takeJust(amount uint64) []int {
	sorted := make([]int, len(w.tokens))
	for place := range sorted {
		sorted[place] = place
	}
	slices.SortStableFunc(sorted, func(a, b int) int { return cmp.Compare(w.tokens[b].Amount, w.tokens[a].Amount) })
	var places []int
	for _, place := range sorted {
		if t := w.tokens[place]; t.Amount <= amount {
			places = append(places, place)
			amount -= t.Amount
		}
	}
	return places
}

// at are the tokens at these places.
func (w *Wallet) at(places []int) []api.Token {
	var l []api.Token
	for _, place := range places {
		l = append(l, w.tokens[place])
	}
	return l
}

// drop leaves the wallet without the tokens at these places. Nothing that a token says tells it apart: another may say the same.
func (w *Wallet) drop(places []int) {
	var rest []api.Token
	for place, t := range w.tokens {
		if !slices.Contains(places, place) {
			rest = append(rest, t)
		}
	}
	w.tokens = rest
}

func secretsOf(l []api.Token) map[string]struct{} {
	secrets := map[string]struct{}{}
	for _, t := range l {
		secrets[string(t.Secret)] = struct{}{}
	}
	return secrets
}

func worth(l []api.Token) uint64 {
	sum := uint64(0)
	for _, t := range l {
		sum += t.Amount
	}
	return sum
}

func copyOfTokens(l []api.Token) []api.Token {
	var c []api.Token
	for _, t := range l {
		c = append(c, api.Token{Amount: t.Amount, Keys: bytes.Clone(t.Keys), Secret: bytes.Clone(t.Secret), Sign: bytes.Clone(t.Sign)})
	}
	return c
}

// isForeign tells whether a token is one of other keys, isOdd whether its amount is no denomination.
func (w *Wallet) isForeign(t api.Token) bool { return !bytes.Equal(t.Keys, w.keys.Name) }

func isOdd(t api.Token) bool {
	_, errno := keys.Place(t.Amount)
	return errno != api.OK
}

// isSigned tells whether that is the mint's answer to an output, tokenOf what comes of it.
func (w *Wallet) isSigned(o output, s api.Signed) bool {
	return s.Amount == o.amount && bytes.Equal(s.Point, o.point) && blind.Right(w.public(o.amount), o.point, s.Sign, s.Proof)
}

func (w *Wallet) tokenOf(o output, s api.Signed) api.Token {
	sign, _ := blind.Unblind(s.Sign, o.r, w.public(o.amount))
	return api.Token{Amount: o.amount, Keys: w.keys.Name, Secret: o.secret, Sign: sign}
}
