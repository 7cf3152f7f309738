package wallet

import "mintvault/api"

// The numbers of the calls, in their records.
const (
	asks = iota + 1
	receives
	pays
	changes
	sends
	answers
	refuses
)

// kind is what calls with the same number are: what they say, and what they do.
type kind struct {
	text, amount, list bool
	deed               deed
}

// deed is what a call does: it tells why the call may not be done, or else what changes when it is.
type deed func(*Wallet, call) (change, api.Errno)

// change happens once the call is recorded. It answers the tokens that are sent.
type change func() (sent []api.Token)

// kinds are those of the numbers.
func kinds() map[uint64]kind {
	return map[uint64]kind{
		asks:     {text: true, amount: true, deed: idle((*Wallet).ask)},
		receives: {text: true, deed: idle((*Wallet).receive)},
		pays:     {text: true, amount: true, deed: idle((*Wallet).pay)},
		changes:  {amount: true, deed: idle((*Wallet).exchange)},
		sends:    {amount: true, deed: (*Wallet).send},
		answers:  {list: true, deed: waiting((*Wallet).answer)},
		refuses:  {deed: waiting((*Wallet).refuse)},
	}
}

// fits tells whether a call says nothing that those of its kind do not.
func (k kind) fits(c call) bool {
	return (k.text || c.text == "") && (k.amount || c.amount == 0) && (k.list || len(c.list) == 0)
}

// idle is a deed for which no request may be open, waiting one for which one must be.
func idle(d deed) deed { return when(false, d) }

func waiting(d deed) deed { return when(true, d) }

func when(open bool, d deed) deed {
	return func(w *Wallet, c call) (change, api.Errno) {
		if open != (w.open != nil) {
			return nil, api.ErrState
		}
		return d(w, c)
	}
}
