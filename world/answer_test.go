package world

import (
	"strconv"
	"testing"

	"mintvault/api"
)

// waiting is each kind of request that is open at wallet 0, and what the wallet has if it gives up.
func waiting() map[string]struct {
	acts []api.Act
	back uint64
} {
	return map[string]struct {
		acts []api.Act
		back uint64
	}{
		"Issue":         {then(has(0, "a", 8), fund("b", 5), ask(0, "b", 5)), 8},
		"Change":        {then(has(0, "a", 8), exchange(0, 3)), 8},
		"Pay":           {then(has(0, "a", 8), pay(0, "s", 3)), 8},
		"Pay of all":    {then(has(0, "a", 8), pay(0, "s", 8)), 8},
		"Swap":          {then(has(0, "a", 7), send(0, 0, 3), receive(0)), 4},
		"Swap, no more": {then(has(0, "a", 8), send(0, 0, 8), receive(0)), 0},
	}
}

// A wallet gives up at each errno but three, and those only for the request that is open.
func TestErrnosOfAnswers(t *testing.T) {
	for kind, x := range waiting() {
		for errno := api.Errno(-1); errno <= 20; errno++ {
			what := kind + ", errno " + strconv.Itoa(int(errno))
			s := begun(worldOf(1))
			for _, a := range x.acts {
				s.act(a)
			}
			before := s.scene()
			r, _ := s.owners[0].Asked()
			want := before
			want.Open, want.Balances = []bool{false}, []uint64{x.back}
			switch errno {
			case api.OK, api.ErrPower, api.ErrFull, api.ErrQuote:
				want = before
			}
			if errno == api.OK && len(r.Out) == 0 {
				want.Open = []bool{false} // such a request has no more to be told
			}
			s.answers.put(answer{asked{0, r}, nil, errno})
			s.act(toWallet(0))
			if got := s.scene(); !sameScene(got, want) {
				t.Errorf("P1: %s: %+v, want %+v", what, got, want)
			}
		}
	}
}

// An answer to a request that is another one in anything is not heard.
func TestAnswersToOtherRequests(t *testing.T) {
	for kind, x := range waiting() {
		for i, change := range []func(r *api.Request){
			func(r *api.Request) { r.Kind++ },
			func(r *api.Request) { r.Name += "x" },
			func(r *api.Request) { r.Amount++ },
			func(r *api.Request) { r.In = append(r.In, api.Token{}) },
			func(r *api.Request) { r.Out = append(r.Out, api.Hidden{}) },
			func(r *api.Request) { *r = api.Request{} },
			func(r *api.Request) { r.In[0].Amount *= 2 },
			func(r *api.Request) { r.In[0].Keys[7] ^= 1 },
			func(r *api.Request) { r.In[0].Secret[31] ^= 1 },
			func(r *api.Request) { r.In[0].Sign[32] ^= 1 },
			func(r *api.Request) { r.In = r.In[1:] },
			func(r *api.Request) { r.Out[0].Amount *= 2 },
			func(r *api.Request) { r.Out[0].Point[32] ^= 1 },
			func(r *api.Request) { r.Out = r.Out[1:] },
		} {
			s := begun(worldOf(1))
			for _, a := range x.acts {
				s.act(a)
			}
			before := s.scene()
			r, _ := s.owners[0].Asked()
			if i >= 6 && i <= 10 && len(r.In) == 0 || i > 10 && len(r.Out) == 0 {
				continue
			}
			change(&r)
			s.answers.put(answer{asked{0, r}, nil, api.ErrSpent})
			s.act(toWallet(0))
			if got := s.scene(); !sameScene(got, before) {
				t.Errorf("P1: %s, an answer to another request, %d: %+v, want %+v", kind, i, got, before)
			}
		}
	}
}

// What a wallet does not take for an answer leaves its request open, and the answer is gone.
func TestAnswersThatAreNotRight(t *testing.T) {
	s := begun(worldOf(1))
	for _, a := range then(has(0, "a", 3), exchange(0, 2), toMint(0)) {
		s.act(a)
	}
	right := s.answers[0]
	for _, l := range [][]api.Signed{nil, right.signed[:1], {right.signed[1], right.signed[0]}} {
		s.answers[0].signed = l
		s.act(toWallet(0))
		if got := s.scene(); !got.Open[0] || got.Answers != 0 || got.Balances[0] != 0 {
			t.Errorf("P1: an answer that is not right: %+v", got)
		}
		s.answers.put(right)
	}
	s.act(toWallet(0))
	if got := s.scene(); got.Open[0] || got.Balances[0] != 3 {
		t.Errorf("P1: one that is right: %+v", got)
	}
}

// There is no order yet: the wallet waits.
func TestNoOrder(t *testing.T) {
	p := story(t, 1, heard(ask(0, "a", 5))...)
	p.isOpen("ErrQuote", 0, true)
	p.act(fund("a", 5), toMint(0), again(0), toMint(0), toWallet(0))
	p.has("the order comes", 0, 0, 0, 5)
	p.ends()
}

// The order is used, or of another amount: the wallet gives up.
func TestWrongOrders(t *testing.T) {
	p := story(t, 2, then(has(0, "a", 5), heard(ask(1, "a", 5))...)...)
	p.has("ErrState", 0, 0, 0, 5, 0)
	p.isOpen("ErrState", 1, false)
	for _, amount := range []uint64{1, 6, 8, 1 << 20} {
		p.act(fund("b", 7))
		p.act(heard(ask(1, "b", amount))...)
		p.has("ErrSum", 0, 0, 0, 5, 0)
		p.isOpen("ErrSum", 1, false)
	}
	p.act(heard(ask(1, "b", 7))...)
	p.has("that amount", 0, 0, 0, 5, 7)
	p.ends()
}

// The mint has no power: the wallet waits, and asks once more.
func TestNoPowerAtTheMint(t *testing.T) {
	for _, a := range []api.Act{ask(0, "b", 5), pay(0, "s", 3), exchange(0, 3)} {
		p := story(t, 1, then(has(0, "a", 8), fund("b", 5), mintPower(10), a, toMint(0))...)
		before := p.s.scene()
		if before.Answers != 1 || before.Requests != 0 || before.Book.Count != 1 {
			t.Errorf("P1: there is an answer without power, too: %+v", before)
		}
		p.act(toWallet(0))
		before.Answers = 0
		p.stands("ErrPower", before)
		p.act(again(0), toMint(0), toWallet(0), fund("c", 1))
		p.stands("ErrPower", before)
		p.act(mintOpen(), again(0), toMint(0), toWallet(0))
		p.isOpen("power again", 0, false)
		p.ends()
	}
}

// The wallet has no power when the answer comes: it is gone, and comes again.
func TestNoPowerAtTheWallet(t *testing.T) {
	for _, a := range []api.Act{ask(0, "b", 5), ask(0, "a", 5), pay(0, "s", 3), exchange(0, 3)} {
		p := story(t, 1, then(has(0, "a", 8), fund("b", 5), a, toMint(0), power(0, 10))...)
		before := p.s.scene()
		p.act(kept(toWallet(0)))
		p.stands("it stays", before)
		p.act(toWallet(0))
		before.Answers = 0
		p.stands("it is gone", before)
		p.act(send(0, 0, 8), again(0), toMint(0), toWallet(0))
		p.stands("nothing goes", before)
		p.act(open(0), again(0), toMint(0), toWallet(0))
		p.isOpen("power again", 0, false)
		p.ends()
	}
}
