package world

import (
	"strconv"
	"testing"

	"mintvault/api"
	"mintvault/wire"
)

// nameFor is one of n bytes that is not there yet.
func nameFor(n, i int) string { return string(some(n, "name "+strconv.Itoa(i))) }

// orderFrame is how many bytes the frame of an order takes, askFrame that of Ask, giveUpFrame that of Refused.
func orderFrame(name int) int { return 12 + wish{name: nameFor(name, 0), amount: 1}.record() }

func askFrame(name int) int { return 12 + callRecord(name, 1, nil) }

func giveUpFrame() int { return 12 + callRecord(0, 0, nil) }

// length is that of a name whose frame leaves room that frames can fill to the last byte; 0, if there is none.
func length(room int, frame func(name int) int) int {
	exact := map[int]bool{0: true}
	for n := 1; n <= 64; n++ {
		exact[frame(n)] = true
	}
	for n := 64; n > 0; n-- {
		if rest := room - frame(n); exact[rest] || rest >= 2*frame(1) {
			return n
		}
	}
	return 0
}

// fillMint has orders come in until the mint's journal has room for so many bytes.
func (p *twin) fillMint(left int) {
	p.Helper()
	for d := p.d.bank; d.limit-d.used > left; {
		a := fund(nameFor(length(d.limit-d.used-left, orderFrame), d.used), 1)
		used := d.used
		p.s.act(a)
		p.d.act(a)
		if d.used == used {
			p.Fatalf("the room cannot be filled: %+v", a)
		}
	}
	p.holds()
	if got := len(p.s.mint.Disk()); got != api.MaxBytes-left {
		p.Fatalf("P1: %d bytes lie on the mint's disk", got)
	}
}

// fillWallet has a wallet ask, and give up, until its journal has room for so many bytes.
func (p *twin) fillWallet(who, left int) {
	p.Helper()
	s, d := p.s.owners[who], p.d.purses[who]
	tokens, coins := p.strangers(64)
	text, _ := wire.PutTokens(tokens)
	both := func(got, want api.Errno) {
		p.Helper()
		if got != api.OK || want != api.OK {
			p.Fatalf("V2: %d, %d", got, want)
		}
	}
	for d.limit-d.used-left > 10000 {
		_, errno := s.Receive(text)
		both(errno, d.receive(coins))
		both(s.Refused(), d.refused())
	}
	frame := func(name int) int { return askFrame(name) + giveUpFrame() }
	for d.limit-d.used > left {
		name := nameFor(length(d.limit-d.used-left, frame), d.used)
		_, errno := s.Ask(name, 1)
		both(errno, d.ask(name, 1))
		both(s.Refused(), d.refused())
	}
	p.holds()
	if got := len(s.Disk()); got != api.MaxBytes-left {
		p.Fatalf("P1: %d bytes lie on the disk of wallet %d", got, who)
	}
}

// strangers are tokens of 1 that no wallet had, as both have them.
func (p *twin) strangers(n int) (tokens []api.Token, coins []coin) {
	for i := range n {
		tokens = append(tokens, api.Token{Amount: 1, Keys: p.s.mint.Keys().Name, Secret: some(32, strconv.Itoa(i)), Sign: make([]byte, 33)})
		coins = append(coins, coin{1, -1, i})
	}
	return tokens, coins
}

// The mint has room for just so many bytes. Once it is full, wallets wait.
func TestTheMintIsFull(t *testing.T) {
	p := story(t, 2, then(has(0, "a", 7), fund("b", 5), send(0, 1, 1))...)
	p.fillMint(0)
	p.act(fund("c", 1), ask(0, "b", 5), toMint(0))
	p.has("an answer", 0, 1, 1, 6, 0)
	p.act(toWallet(0))
	p.has("ErrFull", 0, 0, 1, 6, 0)
	p.isOpen("ErrFull", 0, true)
	p.act(receive(1), again(1), toMint(0), toMint(0), toWallet(1), toWallet(0))
	p.isOpen("ErrFull", 1, true)
	p.act(send(0, 0, 2), send(0, 1, 4))
	p.has("texts", 0, 0, 2, 0, 0)
	p.act(settle())
	p.has("no text stays", 0, 0, 0, 0, 0)
	p.isOpen("settling", 0, true)
	p.isOpen("settling", 1, true)
	p.spendsOnce()
}

// What was done before is answered by a full mint, too; and one Issue with no order finds no room for it.
func TestAFullMintAnswers(t *testing.T) {
	p := story(t, 2, fund("a", 7), ask(0, "a", 7), toMint(0), loseAnswer(0), ask(1, "z", 1))
	p.fillMint(0)
	p.act(again(0), toMint(1), toWallet(0))
	p.has("done before", 1, 0, 0, 7, 0)
	p.act(settle())
	p.has("no room for an order", 0, 0, 0, 7, 0)
	p.isOpen("no room for an order", 1, true)
	p.spendsOnce()
}

// There is room for the order of an Issue, but not for the Issue.
func TestRoomForAnOrder(t *testing.T) {
	p := story(t, 1, ask(0, "z", 1))
	p.fillMint(60)
	funded := p.s.scene().Book.Funded
	p.act(settle())
	if got := p.s.scene(); got.Book.Funded != funded+1 || got.Book.Used != 0 || !got.Open[0] {
		t.Errorf("P1: settling: %+v", got)
	}
}

// A wallet has room for just so many bytes. Once it is full, a text that it cannot receive is gone.
func TestAWalletIsFull(t *testing.T) {
	p := story(t, 2, then(has(0, "a", 7), send(0, 1, 1), send(0, 1, 2), send(0, 1, 4))...)
	p.fillWallet(1, 0)
	p.act(ask(1, "b", 1), kept(receive(1)))
	p.has("it stays, if Keep", 0, 0, 3, 0, 0)
	p.act(receive(1))
	p.has("it is gone", 0, 0, 2, 0, 0)
	if got := p.s.scene().Worth; got != 6 {
		t.Errorf("P1: the first one is gone: Worth %d", got)
	}
	p.act(settle())
	p.has("settling", 0, 0, 0, 0, 0)
	p.isOpen("settling", 1, false)
	p.spendsOnce()
}

// There is room for what it asks for, but not for the answer: it waits, and so it does for a refusal.
func TestRoomForARequest(t *testing.T) {
	for _, name := range []string{"b", "a"} {
		p := story(t, 2, then(has(0, "a", 1), fund("b", 1), send(0, 1, 1))...)
		p.fillWallet(1, askFrame(1)+giveUpFrame()-1)
		p.act(ask(1, name, 1), toMint(0), kept(toWallet(0)), toWallet(0))
		p.isOpen("ErrFull", 1, true)
		p.act(receive(1))
		p.has("a text stays, while a request is open", 0, 0, 1, 0, 0)
		p.act(settle())
		p.has("settling", 0, 0, 0, 0, 0)
		p.isOpen("settling", 1, true)
	}
}

// What is opened again has the same room, to the last byte.
func TestRoomBehindOpen(t *testing.T) {
	p := story(t, 1, fund("a", 1))
	p.fillMint(200)
	p.fillWallet(0, 200)
	p.act(mintPower(10), fund("b", 1), mintOpen(), power(0, 10), ask(0, "a", 1), open(0))
	p.fillMint(0)
	p.fillWallet(0, 0)
	p.act(fund("b", 1), ask(0, "a", 1))
	if !p.d.isFull() {
		t.Error("there is room still")
	}
}
