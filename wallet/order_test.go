package wallet_test

import (
	"math"
	"testing"

	"mintvault/api"
)

// state is a wallet with which something is the matter: what it says then is held against the document's order.
type state struct {
	p    *twin
	make func() *twin
}

// fresh is as it was, whatever has changed.
func (s *state) fresh(records int) *twin {
	if s.p == nil || len(s.p.d.records) != records || s.p.d.off {
		s.p = s.make()
	}
	return s.p
}

// states are an idle wallet and one with a request that is open; with room and without, with power and without it from the next byte on, or from one soon behind it.
func states(t *testing.T) []*state {
	t.Helper()
	idle := with(t, 5, 8)
	open := idle.again(room)
	open.pay("a", 1, api.OK)
	var all []*state
	for _, from := range []*twin{idle, open} {
		n := len(from.d.disk)
		all = append(all,
			&state{make: func() *twin { return from.again(room) }},
			&state{make: func() *twin { return from.again(n) }},
			&state{make: func() *twin { p := from.again(n + 40); p.arm(0); return p }},
			&state{make: func() *twin { p := from.again(n); p.arm(0); return p }},
			&state{make: func() *twin { p := from.again(room); p.arm(20); return p }})
	}
	return all
}

func amounts() []uint64 {
	return []uint64{0, 1, 3, 5, 12, 13, 14, 64 * largest, 64*largest + 1, 1 << 40, 1<<40 + 1, math.MaxUint64}
}

// texts are those of tokens with all sets of faults, the first of which is told.
func texts() []string {
	faults := []func(l []api.Token) []api.Token{
		func(l []api.Token) []api.Token { l[0].Sign = nil; return l },
		func(l []api.Token) []api.Token { l[1].Keys[7] ^= 1; return l },
		func(l []api.Token) []api.Token { l[2].Amount = 3; return l },
		func(l []api.Token) []api.Token { l[3].Secret = l[4].Secret; return l },
	}
	var all []string
	for set := range 1 << len(faults) {
		l := foreign("t", 1, 2, 4, 8, 16)
		for i, fault := range faults {
			if set>>i&1 == 1 {
				l = fault(l)
			}
		}
		all = append(all, textOf(l))
	}
	return all
}

// Whatever is wrong at once: the first one is told.
func TestOrder(t *testing.T) {
	for _, s := range states(t) {
		n := len(s.make().d.records)
		for _, name := range []string{"", "a", nameOf(64), nameOf(65)} {
			for _, amount := range amounts() {
				s.fresh(n).ask(name, amount, whatever)
				s.fresh(n).pay(name, amount, whatever)
			}
		}
		for _, amount := range amounts() {
			s.fresh(n).change(amount, whatever)
			s.fresh(n).send(amount, whatever)
		}
		for _, text := range texts() {
			s.fresh(n).receive(text, whatever)
		}
		for _, l := range [][]api.Signed{nil, {{}}, {{}, {}}} {
			s.fresh(n).answer(l, whatever)
		}
		if open := s.fresh(n).d.open; open != nil {
			s.fresh(n).answer(answerTo(*open), whatever)
		}
		s.fresh(n).refused(whatever)
	}
}

// The same by hand, two at once.
func TestOrderOfTwo(t *testing.T) {
	p := with(t, 5)
	long := uint64(math.MaxUint64)
	p.ask("", 0, api.ErrForm)
	p.ask("", long, api.ErrForm)
	p.pay("", 0, api.ErrForm)
	p.pay("", long, api.ErrForm)
	p.pay("", 6, api.ErrForm)
	p.pay("a", long, api.ErrRange)
	p.change(long, api.ErrFunds)
	p.send(long, api.ErrFunds)
	all := texts()
	for set, want := range []api.Errno{api.OK, api.ErrForm, api.ErrKeys, api.ErrForm, api.ErrRange, api.ErrForm, api.ErrKeys, api.ErrForm, api.ErrTwice, api.ErrForm, api.ErrKeys, api.ErrForm, api.ErrRange, api.ErrForm, api.ErrKeys, api.ErrForm} {
		p.again(room).receive(all[set], want)
	}
	p.change(1, api.OK)
	p.ask("", 0, api.ErrState)
	p.receive("", api.ErrState)
	p.pay("", 0, api.ErrState)
	p.change(0, api.ErrState)
	p.send(0, api.ErrRange)
	full := p.again(len(p.d.disk))
	full.arm(0)
	full.send(0, api.ErrRange)
	full.send(5, api.ErrFunds)
	full.send(3, api.ErrNone)
	full.send(4, api.ErrFull)
	full.answer(nil, api.ErrProof)
	full.answer(answerTo(*full.d.open), api.ErrFull)
	full.refused(api.ErrFull)
	p.arm(0)
	p.answer(nil, api.ErrProof)
	p.send(4, api.ErrPower)
	p.send(0, api.ErrPower)
	p.ask("", 0, api.ErrPower)
	p.answer(nil, api.ErrPower)
	p.refused(api.ErrPower)
}
