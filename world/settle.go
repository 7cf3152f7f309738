package world

import "mintvault/api"

// settle has all go on, and all that is under way arrive. Requests and answers need not: each wallet asks once more.
func (s *state) settle(api.Act) {
	s.openMint(api.Act{})
	for who := range s.owners {
		s.openWallet(api.Act{Who: who})
	}
	for who := range s.owners {
		s.serve(who)
	}
	for _, l := range s.texts {
		if _, errno := s.owners[l.to].Receive(l.text); errno == api.OK {
			s.serve(l.to)
		}
	}
	s.texts, s.requests, s.answers = nil, nil, nil
}

// serve has the mint do what is open at a wallet, and the wallet hear of it.
func (s *state) serve(who int) {
	r, open := s.owners[who].Asked()
	if !open {
		return
	}
	if r.Kind == api.Issue {
		s.mint.Fund(r.Name, sum(r.Out)) // where there is an order of that name, nothing changes
	}
	s.tell(s.answerTo(asked{who, r}))
}

func sum(out []api.Hidden) uint64 {
	n := uint64(0)
	for _, h := range out {
		n += h.Amount
	}
	return n
}
