package world

import (
	"testing"

	"mintvault/api"
)

// What settling does, told in the document's words: each row, and how all stands behind it.
func TestSettling(t *testing.T) {
	no := []bool{false, false}
	for what, x := range map[string]struct {
		acts []api.Act
		want api.Scene
	}{
		"nothing": {nil, api.Scene{Balances: []uint64{0, 0}, Open: no}},
		"an Issue without an order": {[]api.Act{ask(1, "a", 11)},
			api.Scene{Book: api.Book{Funded: 11, Used: 11, Issued: 11, Count: 1}, Balances: []uint64{0, 11}, Open: no}},
		"an Issue with an order": {[]api.Act{fund("a", 11), ask(1, "a", 11)},
			api.Scene{Book: api.Book{Funded: 11, Used: 11, Issued: 11, Count: 1}, Balances: []uint64{0, 11}, Open: no}},
		"an Issue with an order of another amount": {[]api.Act{fund("a", 10), ask(1, "a", 11)},
			api.Scene{Book: api.Book{Funded: 10}, Balances: []uint64{0, 0}, Open: no}},
		"an Issue with an order that is used": {then(has(0, "a", 11), ask(1, "a", 11)),
			api.Scene{Book: api.Book{Funded: 11, Used: 11, Issued: 11, Count: 1}, Balances: []uint64{11, 0}, Open: no}},
		"an Issue that is done": {[]api.Act{fund("a", 11), ask(1, "a", 11), toMint(0), loseAnswer(0)},
			api.Scene{Book: api.Book{Funded: 11, Used: 11, Issued: 11, Count: 1}, Balances: []uint64{0, 11}, Open: no}},
		"two Issues of the same order: the first wallet is served first": {[]api.Act{ask(1, "a", 4), ask(0, "a", 3)},
			api.Scene{Book: api.Book{Funded: 3, Used: 3, Issued: 3, Count: 1}, Balances: []uint64{3, 0}, Open: no}},
		"a Pay of a name that no order has": {then(has(0, "a", 8), pay(0, "b", 3)),
			api.Scene{Book: api.Book{Funded: 8, Used: 8, Issued: 13, Spent: 8, Paid: 3, Count: 2}, Balances: []uint64{5, 0}, Open: no}},
		"a Change": {then(has(0, "a", 8), exchange(0, 3)),
			api.Scene{Book: api.Book{Funded: 8, Used: 8, Issued: 16, Spent: 8, Count: 2}, Balances: []uint64{8, 0}, Open: no}},
		"texts": {then(has(0, "a", 7), send(0, 1, 1), send(0, 0, 2), send(0, 1, 4)),
			api.Scene{Book: api.Book{Funded: 7, Used: 7, Issued: 14, Spent: 7, Count: 4}, Balances: []uint64{2, 5}, Open: no}},
		"a text for whom a request is open": {then(has(0, "a", 7), ask(1, "b", 9), send(0, 1, 1), receive(1)),
			api.Scene{Book: api.Book{Funded: 16, Used: 16, Issued: 17, Spent: 1, Count: 3}, Balances: []uint64{6, 10}, Open: no}},
		"a text that is received, and not heard of": {then(has(0, "a", 7), send(0, 1, 1), receive(1)),
			api.Scene{Book: api.Book{Funded: 7, Used: 7, Issued: 8, Spent: 1, Count: 2}, Balances: []uint64{6, 1}, Open: no}},
		"a request of which the mint has not heard, and an answer": {then(has(0, "a", 7), fund("b", 1), ask(1, "b", 1), kept(toMint(0)), exchange(0, 2)),
			api.Scene{Book: api.Book{Funded: 8, Used: 8, Issued: 11, Spent: 3, Count: 3}, Balances: []uint64{7, 1}, Open: no}},
		"requests of which no wallet knows any more": {then(has(0, "a", 7), ask(1, "a", 7), kept(toMint(0)), kept(toWallet(0))),
			api.Scene{Book: api.Book{Funded: 7, Used: 7, Issued: 7, Count: 1}, Balances: []uint64{7, 0}, Open: no}},
		"no power": {then(has(0, "a", 7), mintPower(0), power(0, 0), power(1, 0), fund("b", 1), send(0, 1, 1), ask(1, "b", 1)),
			api.Scene{Book: api.Book{Funded: 7, Used: 7, Issued: 7, Count: 1}, Balances: []uint64{7, 0}, Open: no}},
	} {
		plays(t, what, 2, then(x.acts, settle()), x.want)
		p := story(t, 2, then(x.acts, settle())...)
		p.act(settle())
		p.stands(what+", twice", x.want)
		p.ends()
	}
}

// Texts are received in order: what comes first is paid with first.
func TestOrderOfTexts(t *testing.T) {
	for _, x := range []struct {
		first, second, spent uint64
	}{{1, 4, 1}, {4, 1, 4}} {
		p := story(t, 2, then(has(0, "a", 5), send(0, 1, x.first), send(0, 1, x.second), settle(), pay(1, "s", 1), settle())...)
		if got := p.s.scene().Book; got.Spent != 5+x.spent || got.Paid != 1 {
			t.Errorf("P1: %d, then %d: %+v", x.first, x.second, got)
		}
		p.ends()
	}
}

// A request that is open is served ahead of the texts.
func TestWalletsAreServedFirst(t *testing.T) {
	p := story(t, 2, then(has(0, "a", 1), send(0, 1, 1), ask(1, "b", 4), settle(), pay(1, "s", 1), settle())...)
	if got := p.s.scene().Book; got.Spent != 1+4 {
		t.Errorf("P1: the text is received first: %+v", got)
	}
	p.ends()
}

// restless is a story in which much is under way, is lost or comes twice; no text is kept.
func restless() []api.Act {
	l := then(has(0, "a", 7), ask(1, "b", 5), kept(toMint(0)), fund("b", 5), send(0, 1, 2), send(0, 2, 1), exchange(0, 3))
	l = then(l, toMint(1), kept(toWallet(1)), receive(1), receive(2), kept(toMint(0)), toMint(1), lose(0), toWallet(3), toWallet(2))
	l = then(l, again(2), pay(1, "s", 3), mintPower(60), toMint(0), toMint(0), mintOpen(), again(1), power(1, 30), toMint(0), toWallet(1), toWallet(0))
	return then(l, open(1), ask(2, "c", 6), send(0, 0, 1), loseAnswer(0), again(1), toMint(1), kept(toWallet(0)))
}

// Settling is right at each place of a story: nothing is lost, and what comes behind it goes on.
func TestSettlingAtEachPlace(t *testing.T) {
	for _, l := range [][]api.Act{tale(), restless(), busy()} {
		var places []int
		for i := range len(l) + 1 {
			places = append(places, i)
		}
		each(t, places, func(t *testing.T, i int) {
			p := story(t, 3, then(l[:i], settle())...)
			once := p.s.scene()
			p.act(settle())
			p.stands("twice in a row", once)
			p.act(l[i:]...)
			p.act(settle(), settle())
			p.ends()
		})
	}
}
