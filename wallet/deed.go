package wallet

import (
	"slices"

	"mintvault/api"
	"mintvault/keys"
	"mintvault/wire"
)

const maxEntries = 64

// asked is a request that is open.
type asked struct {
	request api.Request // without Out
	first   uint32      // of its outputs
	amounts []uint64    // of these
	taken   []api.Token // from the wallet
}

func isName(s string) bool { return len(s) > 0 && len(s) <= api.MaxName }

func (w *Wallet) ask(c call) (change, api.Errno) {
	if !isName(c.text) {
		return nil, api.ErrForm
	}
	if c.amount == 0 {
		return nil, api.ErrRange
	}
	return w.asking(api.Request{Kind: api.Issue, Name: c.text}, nil, c.amount)
}

func (w *Wallet) receive(c call) (change, api.Errno) {
	in, errno := wire.Tokens(c.text)
	switch {
	case errno != api.OK:
		return nil, errno
	case slices.ContainsFunc(in, w.isForeign):
		return nil, api.ErrKeys
	case slices.ContainsFunc(in, isOdd):
		return nil, api.ErrRange
	case len(secretsOf(in)) < len(in):
		return nil, api.ErrTwice
	}
	return w.asking(api.Request{Kind: api.Swap, In: in}, nil, worth(in))
}

func (w *Wallet) pay(c call) (change, api.Errno) {
	if !isName(c.text) {
		return nil, api.ErrForm
	}
	if c.amount == 0 || c.amount > api.MaxMoney {
		return nil, api.ErrRange
	}
	return w.spending(api.Request{Kind: api.Pay, Name: c.text, Amount: c.amount}, c.amount)
}

func (w *Wallet) exchange(c call) (change, api.Errno) {
	if c.amount == 0 {
		return nil, api.ErrRange
	}
	return w.spending(api.Request{Kind: api.Swap}, c.amount, c.amount)
}

// spending is asking with tokens worth at least an amount. What they are more comes back, behind what else is asked for.
func (w *Wallet) spending(r api.Request, amount uint64, sums ...uint64) (change, api.Errno) {
	if amount > w.Balance() {
		return nil, api.ErrFunds
	}
	places := w.takeLeast(amount)
	if len(places) > maxEntries {
		return nil, api.ErrLong
	}
	r.In = w.at(places)
	return w.asking(r, places, append(sums, worth(r.In)-amount)...)
}

// asking opens a request for outputs that make these sums, one behind the other. The tokens at these places are taken for it.
func (w *Wallet) asking(r api.Request, places []int, sums ...uint64) (change, api.Errno) {
	var amounts []uint64
	for _, sum := range sums {
		parts, errno := keys.Split(sum)
		if errno != api.OK {
			return nil, errno
		}
		amounts = append(amounts, parts...)
	}
	if len(amounts) > maxEntries {
		return nil, api.ErrLong
	}
	return func() []api.Token {
		w.open = &asked{request: r, first: w.used, amounts: amounts, taken: w.at(places)}
		w.used += uint32(len(amounts))
		w.drop(places)
		return nil
	}, api.OK
}

func (w *Wallet) send(c call) (change, api.Errno) {
	if c.amount == 0 {
		return nil, api.ErrRange
	}
	if c.amount > w.Balance() {
		return nil, api.ErrFunds
	}
	places := w.takeJust(c.amount)
	taken := w.at(places)
	if worth(taken) != c.amount {
		return nil, api.ErrNone
	}
	if len(taken) > maxEntries {
		return nil, api.ErrLong
	}
	return func() []api.Token {
		w.drop(places)
		return taken
	}, api.OK
}

func (w *Wallet) answer(c call) (change, api.Errno) {
	if len(c.list) != len(w.open.amounts) {
		return nil, api.ErrProof
	}
	outputs := w.outputs(w.open)
	for i, o := range outputs {
		if !w.isSigned(o, c.list[i]) {
			return nil, api.ErrProof
		}
	}
	return func() []api.Token {
		for i, o := range outputs {
			w.tokens = append(w.tokens, w.tokenOf(o, c.list[i]))
		}
		w.open = nil
		return nil
	}, api.OK
}

func (w *Wallet) refuse(call) (change, api.Errno) {
	return func() []api.Token {
		w.tokens = append(w.tokens, w.open.taken...)
		w.open = nil
		return nil
	}, api.OK
}
