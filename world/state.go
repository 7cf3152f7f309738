package world

import (
	"mintvault/api"
	"mintvault/keys"
	"mintvault/mint"
	"mintvault/wallet"
	"mintvault/wire"
)

// state is how all stands: who there is, and what is under way.
type state struct {
	mint     *mint.Mint
	seed     []byte // the mint's
	owners   []owner
	requests list[asked]
	answers  list[answer]
	texts    list[letter]
}

// owner is a wallet, and what it takes to open it again.
type owner struct {
	*wallet.Wallet
	seed []byte
}

// asked is a request, and whose it is.
type asked struct {
	who     int
	request api.Request
}

// answer is what the mint has said of a request.
type answer struct {
	asked
	signed []api.Signed
	errno  api.Errno
}

// letter is a text with tokens, and for whom it is.
type letter struct {
	to   int
	text string
}

func begun(w api.World) *state {
	s := &state{seed: derived(w.Seed, "mint")}
	s.mint, _ = mint.New(s.seed, api.MaxBytes)
	for who := range w.Wallets {
		seed := derived(w.Seed, "wallet", uint32(who))
		purse, _ := wallet.New(seed, api.MaxBytes, s.mint.Keys())
		s.owners = append(s.owners, owner{purse, seed})
	}
	return s
}

func derived(seed []byte, label string, path ...uint32) []byte {
	b, _ := keys.Derive(seed, label, path)
	return b
}

// scene is what is told of it.
func (s *state) scene() api.Scene {
	scene := api.Scene{Book: s.mint.Book(), Requests: len(s.requests), Answers: len(s.answers), Texts: len(s.texts)}
	for _, o := range s.owners {
		_, open := o.Asked()
		scene.Balances = append(scene.Balances, o.Balance())
		scene.Open = append(scene.Open, open)
	}
	for _, l := range s.texts {
		scene.Worth += l.worth()
	}
	return scene
}

func (l letter) worth() uint64 {
	tokens, _ := wire.Tokens(l.text)
	sum := uint64(0)
	for _, t := range tokens {
		sum += t.Amount
	}
	return sum
}
