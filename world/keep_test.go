package world

import (
	"testing"

	"mintvault/api"
)

// A text that is received and stays is spent once: nothing is made.
func TestATextTwice(t *testing.T) {
	p := story(t, 2, then(has(0, "a", 8), send(0, 1, 8), kept(receive(1)))...)
	p.has("it stays", 1, 0, 1, 0, 0)
	if w := p.s.scene().Worth; w != 8 {
		t.Errorf("P1: Worth: %d", w)
	}
	p.act(toMint(0), toWallet(0))
	p.has("once", 0, 0, 1, 0, 8)
	p.act(kept(receive(1)), toMint(0))
	p.has("the mint has refused", 0, 1, 1, 0, 8)
	p.isOpen("the mint has refused", 1, true)
	p.act(toWallet(0))
	p.has("twice", 0, 0, 1, 0, 8)
	p.isOpen("twice", 1, false)
	p.act(settle())
	p.stands("three times", api.Scene{Book: api.Book{Funded: 8, Used: 8, Issued: 16, Spent: 8, Count: 2}, Balances: []uint64{0, 8}, Open: []bool{false, false}})
	p.ends()
}

// It stays with a request open, too, and is received when all settles: the second time, or the first.
func TestATextThatStays(t *testing.T) {
	l := then(has(0, "a", 7), send(0, 1, 1), send(0, 1, 2), kept(receive(1)))
	p := story(t, 2, then(l, settle())...)
	p.has("one of them twice", 0, 0, 0, 4, 3)
	p.isOpen("one of them twice", 1, false)
	p = story(t, 2, then(l, lose(0), kept(receive(1)), receive(1))...)
	p.has("a request is open", 0, 0, 2, 4, 0)
	p.act(settle())
	p.has("one of them twice", 0, 0, 0, 4, 3)
	p.ends()
}

// A request that the mint hears more than once is done once.
func TestARequestTwice(t *testing.T) {
	for _, a := range []api.Act{ask(0, "b", 5), pay(0, "s", 3), exchange(0, 3)} {
		p := story(t, 1, then(has(0, "a", 8), fund("b", 5), a, kept(toMint(0)))...)
		once := p.s.scene()
		if once.Requests != 1 || once.Answers != 1 || once.Book.Count != 2 {
			t.Errorf("P1: ActMint with Keep: %+v", once)
		}
		p.act(kept(toMint(0)), again(0), kept(toMint(1)), toMint(0), toMint(0))
		if got := p.s.scene(); got.Requests != 0 || got.Answers != 5 || got.Book != once.Book {
			t.Errorf("P2: heard five times: %+v", got)
		}
		p.act(kept(toWallet(4)))
		once = p.s.scene()
		if once.Open[0] || once.Answers != 5 || once.Balances[0]+once.Book.Spent != once.Book.Issued {
			t.Errorf("P1: ActWallet with Keep: %+v", once)
		}
		p.act(kept(toWallet(1)), toWallet(0), toWallet(0), toWallet(0), toWallet(0), toWallet(0))
		once.Answers = 0
		p.stands("answered five times", once)
		p.ends()
	}
}

// An answer that comes late finds another request open, and is not for it.
func TestLateAnswers(t *testing.T) {
	l := then(has(0, "a", 8), fund("b", 5), ask(0, "b", 5), kept(toMint(0)), toMint(0), toWallet(0), pay(0, "s", 3))
	p := story(t, 2, l...)
	p.has("another request is open", 1, 1, 0, 5, 0)
	p.act(kept(toWallet(0)), toWallet(0))
	p.has("that of the first one comes", 1, 0, 0, 5, 0)
	p.isOpen("that of the first one comes", 0, true)
	p.act(toMint(0), toWallet(0))
	p.has("its own comes", 0, 0, 0, 10, 0)
	p.ends()
}

// So it is with a refusal: it does not close another request, nor the request of another wallet.
func TestLateRefusals(t *testing.T) {
	l := then(has(0, "a", 8), ask(0, "a", 8), kept(toMint(0)), toMint(0), toWallet(0))
	p := story(t, 2, l...)
	p.has("refused", 0, 1, 0, 8, 0)
	p.isOpen("refused", 0, false)
	for _, a := range []api.Act{ask(0, "a", 8), pay(0, "s", 8), exchange(0, 3)} {
		p := story(t, 2, then(l, a, ask(1, "a", 8))...)
		before := p.s.scene()
		p.act(toWallet(0))
		before.Answers = 0
		p.stands("a late refusal", before)
	}
	p.act(toWallet(0))
	p.has("none is open", 0, 0, 0, 8, 0)
	p.ends()
}

// What is lost is asked for once more.
func TestLostAndAskedAgain(t *testing.T) {
	for _, l := range [][]api.Act{
		{fund("b", 5), ask(0, "b", 5)}, {pay(0, "s", 3)}, {pay(0, "s", 8)}, {exchange(0, 3)}, {send(0, 0, 8), receive(0)},
	} {
		before := story(t, 1, then(then(has(0, "a", 8), l...), toMint(0), toWallet(0))...)
		p := story(t, 1, then(has(0, "a", 8), l...)...)
		p.act(lose(0))
		p.isOpen("the request is lost", 0, true)
		p.act(toMint(0), toWallet(0), again(0), toMint(0), loseAnswer(0), toWallet(0))
		p.isOpen("the answer is lost", 0, true)
		p.act(again(0), again(0))
		if got := p.s.scene(); got.Requests != 2 || got.Answers != 0 {
			t.Errorf("P1: asked twice more: %+v", got)
		}
		p.act(toMint(1), toWallet(0), lose(0))
		p.stands("asked once more", before.s.scene())
		p.act(again(0))
		p.stands("none is open", before.s.scene())
		p.ends()
	}
}

// ActAgain is about the request that is open, whatever is under way.
func TestAgain(t *testing.T) {
	p := story(t, 2, then(has(0, "a", 8), fund("b", 2), ask(1, "b", 2))...)
	p.act(again(0))
	p.has("none is open", 1, 0, 0, 8, 0)
	p.act(again(1), again(1))
	p.has("one is open", 3, 0, 0, 8, 0)
	p.act(toMint(2), toWallet(0), again(1))
	p.has("it is no longer open", 2, 0, 0, 8, 2)
	p.act(power(1, 0), exchange(1, 1), again(1))
	p.has("it could not be asked for", 2, 0, 0, 8, 2)
	p.act(open(1), exchange(1, 1), toMint(2), power(1, 0), toWallet(0), again(1))
	p.has("asking once more needs no power", 3, 0, 0, 8, 0)
	p.ends()
}
