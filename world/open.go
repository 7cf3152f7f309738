package world

import (
	"mintvault/api"
	"mintvault/mint"
	"mintvault/wallet"
)

// openMint does without Open where the mint still has power: it is then what Open would make of its disk, but for Arm, and Open does all again that lies there.
func (s *state) openMint(api.Act) {
	if _, errno := s.mint.Spent(nil); errno != api.ErrPower {
		s.mint.Arm(-1)
		return
	}
	if m, errno := mint.Open(s.seed, api.MaxBytes, s.mint.Disk()); errno == api.OK {
		s.mint = m
	}
}

// openWallet does likewise. Sending nothing is an error, of which there is no record.
func (s *state) openWallet(a api.Act) {
	o := &s.owners[a.Who]
	if _, errno := o.Send(0); errno != api.ErrPower {
		o.Arm(-1)
		return
	}
	if w, errno := wallet.Open(o.seed, api.MaxBytes, s.mint.Keys(), o.Disk()); errno == api.OK {
		o.Wallet = w
	}
}
