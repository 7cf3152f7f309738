package wallet_test

import (
	"bytes"
	"reflect"
	"slices"
	"testing"

	"mintvault/api"
	"mintvault/wallet"
	"mintvault/wire"
)

// told is a wallet as the document tells of it.
type told struct {
	limit   int
	records [][]byte
	disk    []byte
	armed   bool
	left    int
	off     bool
	tokens  []api.Token
	open    *api.Request
	first   int         // output of the one that is open
	back    []api.Token // what comes again if it is refused
	used    int         // outputs
}

func (d *told) arm(n int) { d.armed, d.left = n >= 0, n }

// reopen has what was recorded whole.
func (d *told) reopen() {
	d.disk = diskOf(d.records...)
	d.armed, d.off = false, false
}

func (d *told) add(record []byte) api.Errno {
	f := frame(len(d.records), record)
	if len(d.disk)+len(f) > d.limit {
		return api.ErrFull
	}
	for _, c := range f {
		if d.armed && d.left == 0 {
			d.off = true
			return api.ErrPower
		}
		d.disk = append(d.disk, c)
		d.left--
	}
	d.records = append(d.records, record)
	return api.OK
}

// splitOf takes the largest that fits, again and again; of too many it tells 65.
func splitOf(amount uint64) []uint64 {
	var l []uint64
	for part := uint64(largest); part > 0 && len(l) <= 64; {
		if part <= amount {
			l = append([]uint64{part}, l...)
			amount -= part
		} else {
			part /= 2
		}
	}
	return l
}

func sumOf(l []api.Token) uint64 {
	sum := uint64(0)
	for _, t := range l {
		sum += t.Amount
	}
	return sum
}

// asking records a call that asks for something, and has the request open. It needs the first n tokens.
func (d *told) asking(record []byte, r api.Request, n int, amounts ...uint64) (api.Request, api.Errno) {
	if len(amounts) > 64 || n > 64 {
		return api.Request{}, api.ErrLong
	}
	if errno := d.add(record); errno != api.OK {
		return api.Request{}, errno
	}
	for i, amount := range amounts {
		r.Out = append(r.Out, hiddenOf(d.used+i, amount))
	}
	d.open, d.first, d.used = &r, d.used, d.used+len(amounts)
	d.back, d.tokens = slices.Clone(d.tokens[:n]), slices.Clone(d.tokens[n:])
	return r, api.OK
}

func (d *told) ask(name string, amount uint64) (api.Request, api.Errno) {
	switch {
	case d.off:
		return api.Request{}, api.ErrPower
	case d.open != nil:
		return api.Request{}, api.ErrState
	case len(name) < 1 || len(name) > 64:
		return api.Request{}, api.ErrForm
	case amount == 0:
		return api.Request{}, api.ErrRange
	}
	return d.asking(callOf(1, name, amount), api.Request{Kind: 1, Name: name}, 0, splitOf(amount)...)
}

func (d *told) receive(text string) (api.Request, api.Errno) {
	in, errno := wire.Tokens(text)
	switch {
	case d.off:
		return api.Request{}, api.ErrPower
	case d.open != nil:
		return api.Request{}, api.ErrState
	case errno != api.OK:
		return api.Request{}, errno
	case slices.ContainsFunc(in, func(t api.Token) bool { return !bytes.Equal(t.Keys, set().Name) }):
		return api.Request{}, api.ErrKeys
	case slices.ContainsFunc(in, func(t api.Token) bool { return slices.Contains(noDenominations(), t.Amount) }):
		return api.Request{}, api.ErrRange
	}
	for i, t := range in {
		if slices.ContainsFunc(in[:i], func(u api.Token) bool { return bytes.Equal(t.Secret, u.Secret) }) {
			return api.Request{}, api.ErrTwice
		}
	}
	return d.asking(callOf(2, text, 0), api.Request{Kind: 2, In: in}, 0, splitOf(sumOf(in))...)
}

// least is how many tokens are worth at least an amount.
func (d *told) least(amount uint64) int {
	n := 1
	for sumOf(d.tokens[:n]) < amount {
		n++
	}
	return n
}

func (d *told) pay(name string, amount uint64) (api.Request, api.Errno) {
	switch {
	case d.off:
		return api.Request{}, api.ErrPower
	case d.open != nil:
		return api.Request{}, api.ErrState
	case len(name) < 1 || len(name) > 64:
		return api.Request{}, api.ErrForm
	case amount < 1 || amount > 1<<40:
		return api.Request{}, api.ErrRange
	case amount > sumOf(d.tokens):
		return api.Request{}, api.ErrFunds
	}
	n := d.least(amount)
	in := d.tokens[:n]
	return d.asking(callOf(3, name, amount), api.Request{Kind: 3, Name: name, Amount: amount, In: in}, n, splitOf(sumOf(in)-amount)...)
}

func (d *told) change(amount uint64) (api.Request, api.Errno) {
	switch {
	case d.off:
		return api.Request{}, api.ErrPower
	case d.open != nil:
		return api.Request{}, api.ErrState
	case amount == 0:
		return api.Request{}, api.ErrRange
	case amount > sumOf(d.tokens):
		return api.Request{}, api.ErrFunds
	}
	n := d.least(amount)
	in := d.tokens[:n]
	return d.asking(callOf(4, "", amount), api.Request{Kind: 2, In: in}, n, append(splitOf(amount), splitOf(sumOf(in)-amount)...)...)
}

func (d *told) send(amount uint64) (string, api.Errno) {
	switch {
	case d.off:
		return "", api.ErrPower
	case amount == 0:
		return "", api.ErrRange
	case amount > sumOf(d.tokens):
		return "", api.ErrFunds
	}
	var taken []api.Token
	rest := slices.Clone(d.tokens)
	missing := amount
	for part := uint64(largest); part > 0; part /= 2 {
		for i := 0; i < len(rest); i++ {
			if rest[i].Amount == part && part <= missing {
				taken = append(taken, rest[i])
				rest = slices.Delete(rest, i, i+1)
				missing -= part
				i--
			}
		}
	}
	switch {
	case missing > 0:
		return "", api.ErrNone
	case len(taken) > 64:
		return "", api.ErrLong
	}
	if errno := d.add(callOf(5, "", amount)); errno != api.OK {
		return "", errno
	}
	d.tokens = rest
	return textOf(taken), api.OK
}

// answer takes just what the mint says.
func (d *told) answer(l []api.Signed) api.Errno {
	switch {
	case d.off:
		return api.ErrPower
	case d.open == nil:
		return api.ErrState
	case !slices.EqualFunc(l, answerTo(*d.open), func(a, b api.Signed) bool { return reflect.DeepEqual(a, b) }):
		return api.ErrProof
	}
	if errno := d.add(callOf(6, "", 0, l...)); errno != api.OK {
		return errno
	}
	for i, h := range d.open.Out {
		d.tokens = append(d.tokens, tokenOf(d.first+i, h.Amount))
	}
	d.open = nil
	return api.OK
}

func (d *told) refused() api.Errno {
	switch {
	case d.off:
		return api.ErrPower
	case d.open == nil:
		return api.ErrState
	}
	if errno := d.add(callOf(7, "", 0)); errno != api.OK {
		return errno
	}
	d.tokens = append(d.tokens, d.back...)
	d.open = nil
	return api.OK
}

// holds holds all that a wallet tells of itself.
func (d *told) holds(t *testing.T, what string, w *wallet.Wallet) {
	t.Helper()
	if got := w.Disk(); !bytes.Equal(got, d.disk) {
		t.Errorf("%s: V1: %d bytes lie on the disk, want %d", what, len(got), len(d.disk))
	}
	if got := w.Balance(); got != sumOf(d.tokens) {
		t.Errorf("%s: V5: Balance: %d, want %d", what, got, sumOf(d.tokens))
	}
	if got := w.Tokens(); !slices.EqualFunc(got, d.tokens, sameToken) {
		t.Errorf("%s: V5: Tokens: %+v, want %+v", what, got, d.tokens)
	}
	var want api.Request
	if d.open != nil {
		want = *d.open
	}
	if got, open := w.Asked(); open != (d.open != nil) || !sameRequest(got, want) {
		t.Errorf("%s: V5: Asked: %+v, %v, want %+v", what, got, open, want)
	}
}
