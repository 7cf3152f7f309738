package world

import (
	"mintvault/api"
	"mintvault/wallet"
)

// deed is what an act does, and what it needs.
type deed struct {
	do    func(*state, api.Act)
	who   bool // Who must be a wallet
	to    bool // so must N
	below bool // N may be below 0
}

// deeds are those of the acts.
func deeds() map[int]deed {
	return map[int]deed{
		api.ActFund:       {do: (*state).fund},
		api.ActAsk:        {do: asking(named((*wallet.Wallet).Ask)), who: true},
		api.ActSend:       {do: (*state).send, who: true, to: true},
		api.ActReceive:    {do: (*state).receive, who: true},
		api.ActPay:        {do: asking(named((*wallet.Wallet).Pay)), who: true},
		api.ActChange:     {do: asking(change), who: true},
		api.ActMint:       {do: (*state).hearRequest},
		api.ActWallet:     {do: (*state).hearAnswer},
		api.ActAgain:      {do: (*state).again, who: true},
		api.ActMintPower:  {do: (*state).armMint, below: true},
		api.ActPower:      {do: (*state).armWallet, who: true, below: true},
		api.ActMintOpen:   {do: (*state).openMint},
		api.ActOpen:       {do: (*state).openWallet, who: true},
		api.ActLose:       {do: (*state).loseRequest},
		api.ActLoseAnswer: {do: (*state).loseAnswer},
		api.ActSettle:     {do: (*state).settle},
	}
}

// act does what an act does, if it has what that needs.
func (s *state) act(a api.Act) {
	d, known := deeds()[a.Do]
	if known && s.fits(d, a) {
		d.do(s, a)
	}
}

func (s *state) fits(d deed, a api.Act) bool {
	return (d.below || a.N >= 0) && (!d.who || s.isOwner(a.Who)) && (!d.to || s.isOwner(a.N))
}

func (s *state) isOwner(who int) bool { return who >= 0 && who < len(s.owners) }
