package wallet_test

import (
	"slices"
	"testing"

	"mintvault/api"
	"mintvault/mint"
	"mintvault/wallet"
)

// house is a mint, and wallets that have its keys.
type house struct {
	*testing.T
	m *mint.Mint
}

func newHouse(t *testing.T) house {
	t.Helper()
	m, errno := mint.New(mintSeed(), room)
	if errno != api.OK {
		t.Fatalf("M1: %d", errno)
	}
	return house{t, m}
}

func (h house) wallet(seed string) *wallet.Wallet {
	h.Helper()
	w, errno := wallet.New(some(32, seed), room, h.m.Keys())
	if errno != api.OK {
		h.Fatalf("V1: %d", errno)
	}
	return w
}

// serves has the mint do what is open at a wallet, and the wallet hear of it.
func (h house) serves(w *wallet.Wallet, want api.Errno) {
	h.Helper()
	r, _ := w.Asked()
	l, errno := h.m.Do(r)
	if errno != want {
		h.Fatalf("M3: %d, want %d", errno, want)
	}
	if errno == api.OK {
		errno = w.Answer(l)
	} else {
		errno = w.Refused()
	}
	if errno != api.OK {
		h.Fatalf("V4: %d", errno)
	}
}

func (h house) has(w *wallet.Wallet, amounts ...uint64) {
	h.Helper()
	var got []uint64
	for _, t := range w.Tokens() {
		got = append(got, t.Amount)
	}
	if !slices.Equal(got, amounts) {
		h.Errorf("V5: tokens of %v, want %v", got, amounts)
	}
}

// Two wallets and a mint that answers, or refuses: nothing is lost, and nothing is made.
func TestWithAMint(t *testing.T) {
	h := newHouse(t)
	a, b := h.wallet("a"), h.wallet("b")
	a.Ask("order", 7)
	h.serves(a, api.ErrQuote)
	h.has(a)
	h.m.Fund("order", 7)
	a.Ask("order", 7)
	h.serves(a, api.OK)
	h.has(a, 1, 2, 4)
	text, errno := a.Send(2)
	if errno != api.OK {
		t.Fatalf("V3: %d", errno)
	}
	b.Receive(text)
	h.serves(b, api.OK)
	h.has(a, 1, 4)
	h.has(b, 2)
	b.Receive(text)
	h.serves(b, api.ErrSpent)
	h.has(b, 2)
	if book := h.m.Book(); book != (api.Book{Funded: 7, Used: 7, Issued: 9, Spent: 2, Count: 2}) {
		t.Errorf("V4: the book of the document's example: %+v", book)
	}
	a.Change(3)
	h.serves(a, api.OK)
	h.has(a, 1, 2, 2)
	text, _ = a.Send(3)
	a.Pay("shop", 1)
	h.serves(a, api.OK)
	h.has(a, 1)
	b.Receive(text)
	h.serves(b, api.OK)
	h.has(b, 2, 1, 2)
	b.Pay("shop", 5)
	h.serves(b, api.OK)
	h.has(b)
	if book := h.m.Book(); book.Paid != 6 || book.Issued-book.Spent != a.Balance()+b.Balance() {
		t.Errorf("V4: the book: %+v, balances %d and %d", book, a.Balance(), b.Balance())
	}
}

// What is asked once more has the same answer; what the wallet has lost of it comes again with Open.
func TestAskedOnceMore(t *testing.T) {
	h := newHouse(t)
	h.m.Fund("order", 5)
	w := h.wallet("a")
	w.Ask("order", 5)
	r, _ := w.Asked()
	h.m.Do(r)
	w.Arm(30)
	l, _ := h.m.Do(r)
	if errno := w.Answer(l); errno != api.ErrPower {
		t.Errorf("V4: %d", errno)
	}
	w, errno := wallet.Open(some(32, "a"), room, h.m.Keys(), w.Disk())
	if errno != api.OK {
		t.Fatalf("V1: %d", errno)
	}
	if again, open := w.Asked(); !open || !sameRequest(again, r) {
		t.Errorf("V5: %+v, want %+v", again, r)
	}
	h.serves(w, api.OK)
	h.has(w, 1, 4)
	var secrets [][]byte
	for _, token := range w.Tokens() {
		secrets = append(secrets, token.Secret)
	}
	if spent, _ := h.m.Spent(secrets); !slices.Equal(spent, []bool{false, false}) {
		t.Errorf("M4: %v", spent)
	}
}
