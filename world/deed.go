package world

import (
	"slices"

	"mintvault/api"
	"mintvault/wallet"
)

// call is one of a wallet's by which it asks for something.
type call func(*wallet.Wallet, api.Act) (api.Request, api.Errno)

// named is a call that is told a name and an amount.
func named(c func(*wallet.Wallet, string, uint64) (api.Request, api.Errno)) call {
	return func(w *wallet.Wallet, a api.Act) (api.Request, api.Errno) { return c(w, a.Name, a.Amount) }
}

func change(w *wallet.Wallet, a api.Act) (api.Request, api.Errno) { return w.Change(a.Amount) }

// asking does a call, and has under way what is asked for.
func asking(c call) func(*state, api.Act) {
	return func(s *state, a api.Act) {
		if r, errno := c(s.owners[a.Who].Wallet, a); errno == api.OK {
			s.requests.put(asked{a.Who, r})
		}
	}
}

func (s *state) again(a api.Act) {
	if r, open := s.owners[a.Who].Asked(); open {
		s.requests.put(asked{a.Who, r})
	}
}

func (s *state) fund(a api.Act) { s.mint.Fund(a.Name, a.Amount) }

func (s *state) send(a api.Act) {
	if text, errno := s.owners[a.Who].Send(a.Amount); errno == api.OK {
		s.texts.put(letter{a.N, text})
	}
}

// receive leaves the text where it is, if the wallet can take it later.
func (s *state) receive(a api.Act) {
	place := slices.IndexFunc(s.texts, func(l letter) bool { return l.to == a.Who })
	if place < 0 {
		return
	}
	r, errno := s.owners[a.Who].Receive(s.texts[place].text)
	if errno == api.OK {
		s.requests.put(asked{a.Who, r})
	}
	s.texts.take(place, a.Keep || errno == api.ErrState || errno == api.ErrPower)
}

func (s *state) hearRequest(a api.Act) {
	if q, some := s.requests.take(a.N, a.Keep); some {
		s.answers.put(s.answerTo(q))
	}
}

func (s *state) hearAnswer(a api.Act) {
	if x, some := s.answers.take(a.N, a.Keep); some {
		s.tell(x)
	}
}

func (s *state) loseRequest(a api.Act) { s.requests.take(a.N, false) }

func (s *state) loseAnswer(a api.Act) { s.answers.take(a.N, false) }

func (s *state) armMint(a api.Act) { s.mint.Arm(a.N) }

func (s *state) armWallet(a api.Act) { s.owners[a.Who].Arm(a.N) }
