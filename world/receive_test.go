package world

import (
	"testing"

	"mintvault/api"
	"mintvault/wire"
)

// sent has three texts under way to wallet 1, with others between them.
func sent() []api.Act {
	return then(has(0, "a", 31), send(0, 0, 1), send(0, 1, 2), send(0, 0, 4), send(0, 1, 8), send(0, 1, 16))
}

// The first text for a wallet is taken, whatever N is.
func TestTheFirstText(t *testing.T) {
	for _, n := range []int{0, 1, 2, 100} {
		p := story(t, 2, sent()...)
		for i, want := range []uint64{2, 10, 26} {
			a := receive(1)
			a.N = n
			p.act(a, toMint(0), toWallet(0))
			p.has("ActReceive", 0, 0, 4-i, 0, want)
			if w := p.s.scene().Worth; w != 31-want {
				t.Errorf("P1: Worth: %d", w)
			}
		}
		p.act(receive(1))
		p.has("no text for it", 0, 0, 2, 0, 26)
		p.act(receive(0), toMint(0), toWallet(0))
		p.has("the other one's", 0, 0, 1, 1, 26)
		p.ends()
	}
}

// While a request is open, or there is no power, a text stays where it was.
func TestTextsThatStayWhereTheyWere(t *testing.T) {
	for _, keep := range []bool{false, true} {
		a := receive(1)
		a.Keep = keep
		p := story(t, 2, then(sent(), ask(1, "b", 1))...)
		before := p.s.scene()
		p.act(a, a)
		p.stands("ErrState", before)
		p.act(fund("b", 1), toMint(0), toWallet(0), power(1, 20))
		before = p.s.scene()
		p.act(a, a)
		p.stands("ErrPower", before)
		p.act(power(1, -1), a)
		p.stands("the power stays off", before)
		p.act(open(1), receive(1), toMint(0), toWallet(0))
		p.has("the first one", 0, 0, 4, 0, 3)
		p.ends()
	}
}

// badTexts are those of which Receive says another errno.
func badTexts(keys []byte) map[string]api.Errno {
	token := func(amount uint64, name []byte, secret string) api.Token {
		return api.Token{Amount: amount, Keys: name, Secret: []byte(secret), Sign: make([]byte, 33)}
	}
	put := func(l ...api.Token) string {
		text, errno := wire.PutTokens(l)
		if errno != api.OK {
			panic(errno)
		}
		return text
	}
	return map[string]api.Errno{
		"": api.ErrForm, "mv1": api.ErrForm, "no text": api.ErrForm,
		put(token(1, some(8, "others"), "a")):              api.ErrKeys,
		put(token(3, keys, "a")):                           api.ErrRange,
		put(token(1, keys, "a"), token(2, keys, "a")):      api.ErrTwice,
		put(token(0, keys, "a"), token(1<<20, keys, "bc")): api.ErrRange,
	}
}

// Where Receive says another errno, the text is gone; but it stays, if Keep.
func TestTextsThatAreGone(t *testing.T) {
	first := begun(worldOf(2))
	for text, want := range badTexts(first.mint.Keys().Name) {
		if _, errno := first.owners[1].Receive(text); errno != want {
			t.Fatalf("V2: Receive of %.20q: %d, want %d", text, errno, want)
		}
		s := begun(worldOf(2))
		for _, a := range then(has(0, "a", 3), send(0, 1, 1)) {
			s.act(a)
		}
		s.texts = append(list[letter]{{1, text}}, s.texts...)
		s.act(kept(receive(1)))
		if got := s.scene(); got.Texts != 2 || got.Open[1] || got.Requests != 0 {
			t.Errorf("P1: ActReceive with Keep of %.20q: %+v", text, got)
		}
		s.act(receive(1))
		if got := s.scene(); got.Texts != 1 || got.Worth != 1 || got.Open[1] || got.Requests != 0 {
			t.Errorf("P1: ActReceive of %.20q: %+v", text, got)
		}
		s.texts = append(list[letter]{{1, text}}, s.texts...)
		s.act(settle())
		if got := s.scene(); got.Texts != 0 || got.Balances[1] != 1 || got.Open[1] {
			t.Errorf("P1: settling with %.20q: %+v", text, got)
		}
	}
}

// Tokens of which the mint says that they are none are worth nothing.
func TestTokensThatAreNone(t *testing.T) {
	s := begun(worldOf(1))
	text, _ := wire.PutTokens([]api.Token{{Amount: 8, Keys: s.mint.Keys().Name, Secret: []byte("a"), Sign: make([]byte, 33)}})
	s.texts.put(letter{0, text})
	if got := s.scene(); got.Worth != 8 || got.Texts != 1 {
		t.Errorf("P1: Worth: %+v", got)
	}
	for _, a := range heard(kept(receive(0))) {
		s.act(a)
	}
	if got := s.scene(); got.Open[0] || got.Texts != 1 || got.Balances[0] != 0 || got.Book != (api.Book{}) {
		t.Errorf("P2: tokens that are none: %+v", got)
	}
	s.act(settle())
	if got := s.scene(); got.Open[0] || got.Texts != 0 || got.Balances[0] != 0 || got.Book != (api.Book{}) {
		t.Errorf("P2: settling with tokens that are none: %+v", got)
	}
}

// A wallet may send to itself.
func TestToItself(t *testing.T) {
	p := story(t, 1, then(has(0, "a", 7), send(0, 0, 3), send(0, 0, 4))...)
	p.has("sent", 0, 0, 2, 0)
	p.act(heard(receive(0))...)
	p.has("received", 0, 0, 1, 3)
	p.act(settle())
	p.has("settled", 0, 0, 0, 7)
	p.ends()
}
