package world

import (
	"bytes"
	"reflect"
	"testing"

	"mintvault/api"
	"mintvault/mint"
	"mintvault/wallet"
)

// twin is a world, and the same one as the document tells of it: each act is done in both, and held.
type twin struct {
	*testing.T
	s    *state
	d    *told
	acts []api.Act
	kept bool // a text was received and stayed
}

func newTwin(t *testing.T, wallets int) *twin {
	t.Helper()
	p := &twin{T: t, s: begun(worldOf(wallets)), d: toldOf(wallets)}
	p.holds()
	return p
}

// story is a twin in which these acts were done.
func story(t *testing.T, wallets int, l ...api.Act) *twin {
	t.Helper()
	p := newTwin(t, wallets)
	p.act(l...)
	return p
}

func (p *twin) act(l ...api.Act) {
	p.Helper()
	for _, a := range l {
		p.s.act(a)
		p.d.act(a)
		p.acts = append(p.acts, a)
		p.kept = p.kept || a.Do == api.ActReceive && a.Keep
		p.holds()
		if a.Do == api.ActSettle && a.N >= 0 {
			p.settled()
		}
	}
}

// holds holds how all stands, and what holds whatever happens.
func (p *twin) holds() {
	p.Helper()
	got, want := p.s.scene(), p.d.scene()
	if !sameScene(got, want) {
		p.Fatalf("P1: behind %+v: %+v, want %+v", p.acts, got, want)
	}
	b := got.Book
	if b.Issued+b.Paid != b.Used+b.Spent || b.Used > b.Funded || balances(got)+b.Spent > b.Issued {
		p.Fatalf("P2: behind %+v: %+v", p.acts, got)
	}
}

func (p *twin) settled() {
	p.Helper()
	got := p.s.scene()
	if got.Requests != 0 || got.Answers != 0 || got.Texts != 0 || got.Worth != 0 {
		p.Fatalf("P1: something is under way behind a settling, %+v: %+v", p.acts, got)
	}
	if p.kept || p.d.isFull() {
		return
	}
	for _, open := range got.Open {
		if open {
			p.Fatalf("P2: a request is open behind a settling, %+v: %+v", p.acts, got)
		}
	}
	if balances(got)+got.Book.Spent != got.Book.Issued {
		p.Fatalf("P2: something is lost behind a settling, %+v: %+v", p.acts, got)
	}
}

func balances(s api.Scene) uint64 {
	n := uint64(0)
	for _, balance := range s.Balances {
		n += balance
	}
	return n
}

// spendsOnce holds that no token was spent twice, by what the mint has done.
func (p *twin) spendsOnce() {
	p.Helper()
	seen := map[string]bool{}
	for _, r := range p.s.mint.Done() {
		for _, token := range r.In {
			if seen[string(token.Secret)] {
				p.Fatalf("P2: a token is spent twice: %+v", p.acts)
			}
			seen[string(token.Secret)] = true
		}
	}
}

// lies holds that all who have power are what Open makes of their disks.
func (p *twin) lies() {
	p.Helper()
	m, errno := mint.Open(derived(worldOf(1).Seed, "mint"), 1048576, p.s.mint.Disk())
	if errno != api.OK || m.Book() != p.s.mint.Book() || !p.d.bank.off && !bytes.Equal(m.Disk(), p.s.mint.Disk()) {
		p.Fatalf("P1: the mint, opened: %d, behind %+v", errno, p.acts)
	}
	for who, o := range p.s.owners {
		w, errno := wallet.Open(derived(worldOf(1).Seed, "wallet", uint32(who)), 1048576, m.Keys(), o.Disk())
		if errno != api.OK || !reflect.DeepEqual(w.Tokens(), o.Tokens()) || !p.d.purses[who].off && !bytes.Equal(w.Disk(), o.Disk()) {
			p.Fatalf("P1: wallet %d, opened: %d, behind %+v", who, errno, p.acts)
		}
		got, open := w.Asked()
		if want, some := o.Asked(); open != some || !isSame(got, want) {
			p.Fatalf("P1: wallet %d, opened, asks for %+v, want %+v, behind %+v", who, got, want, p.acts)
		}
	}
}

// ends holds that Play tells the same of all that was done.
func (p *twin) ends() {
	p.Helper()
	p.spendsOnce()
	p.lies()
	plays(p.T, "the whole story", len(p.s.owners), p.acts, p.d.scene())
}

// stands holds how all stands, as it is written in a test.
func (p *twin) stands(what string, want api.Scene) {
	p.Helper()
	if got := p.s.scene(); !sameScene(got, want) {
		p.Errorf("P1: %s: %+v, want %+v", what, got, want)
	}
}

// has holds the balances, and how many requests, answers and texts are under way.
func (p *twin) has(what string, requests, answers, texts int, balances ...uint64) {
	p.Helper()
	want := p.d.scene()
	want.Requests, want.Answers, want.Texts, want.Balances = requests, answers, texts, balances
	p.stands(what, want)
}

// isOpen holds whether a request of a wallet's is open.
func (p *twin) isOpen(what string, who int, want bool) {
	p.Helper()
	if _, got := p.s.owners[who].Asked(); got != want {
		p.Errorf("P1: %s: whether a request of wallet %d is open: %v", what, who, got)
	}
}
