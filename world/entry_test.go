package world

import (
	"math"
	"slices"
	"testing"

	"mintvault/api"
)

// three has a request of each of three wallets under way, in order.
func three() []api.Act {
	return []api.Act{fund("a", 1), fund("b", 2), fund("c", 4), ask(0, "a", 1), ask(1, "b", 2), ask(2, "c", 4)}
}

// entries are numbers, and which one of three each of them is.
func entries() map[int]int {
	return map[int]int{0: 0, 1: 1, 2: 2, 3: 0, 4: 1, 5: 2, 6: 0, 256: 1, 257: 2, 1 << 40: 1, math.MaxInt: 1, math.MaxInt - 1: 0}
}

// owned are the balances when only some have theirs.
func owned(has func(who int) bool) []uint64 {
	l := []uint64{0, 0, 0}
	for who := range l {
		if has(who) {
			l[who] = 1 << who
		}
	}
	return l
}

func TestEntriesOfRequests(t *testing.T) {
	for n, who := range entries() {
		p := story(t, 3, three()...)
		p.act(toMint(n))
		p.has("ActMint", 2, 1, 0, 0, 0, 0)
		p.act(toWallet(0))
		p.has("ActMint", 2, 0, 0, owned(func(x int) bool { return x == who })...)
		p.act(toMint(0), toMint(0), toWallet(0), toWallet(0))
		p.has("the others behind it", 0, 0, 0, 1, 2, 4)
		p = story(t, 3, then(three(), lose(n))...)
		p.has("ActLose", 2, 0, 0, 0, 0, 0)
		p.act(toMint(0), toMint(0), toWallet(0), toWallet(0))
		p.has("ActLose", 0, 0, 0, owned(func(x int) bool { return x != who })...)
		p.isOpen("ActLose", who, true)
		p.ends()
	}
}

func TestEntriesOfAnswers(t *testing.T) {
	all := then(three(), toMint(0), toMint(0), toMint(0))
	for n, who := range entries() {
		p := story(t, 3, then(all, toWallet(n))...)
		p.has("ActWallet", 0, 2, 0, owned(func(x int) bool { return x == who })...)
		p.act(toWallet(0), toWallet(0))
		p.has("the others behind it", 0, 0, 0, 1, 2, 4)
		p = story(t, 3, then(all, loseAnswer(n))...)
		p.has("ActLoseAnswer", 0, 2, 0, 0, 0, 0)
		p.act(toWallet(0), toWallet(0))
		p.has("ActLoseAnswer", 0, 0, 0, owned(func(x int) bool { return x != who })...)
		p.isOpen("ActLoseAnswer", who, true)
		p.ends()
	}
}

// What stays in a list stays in its order, and what comes is the last.
func TestOrderOfEntries(t *testing.T) {
	p := story(t, 3, then(three(), toMint(1), again(1), lose(0))...)
	p.has("requests of 2 and 1", 2, 1, 0, 0, 0, 0)
	p.act(toMint(0), toWallet(1))
	p.has("the answer to 2 behind that to 1", 1, 1, 0, 0, 0, 4)
	p.act(kept(toMint(0)), toMint(0), toWallet(2))
	p.has("three answers to 1", 0, 2, 0, 0, 2, 4)
	p.act(again(0), again(1), toMint(0), toWallet(2))
	p.has("the answer to 0 is the last", 0, 2, 0, 1, 2, 4)
	p.ends()
}

// Where the list has no entry, nothing is done.
func TestNoEntry(t *testing.T) {
	for _, l := range [][]api.Act{nil, has(0, "a", 5), then(has(0, "a", 5), send(0, 1, 4))} {
		p := story(t, 2, l...)
		before := p.s.scene()
		for _, n := range []int{0, 1, 2, math.MaxInt} {
			p.act(toMint(n), toWallet(n), lose(n), loseAnswer(n), kept(toMint(n)), kept(toWallet(n)))
			p.stands("no entry", before)
		}
		p.ends()
	}
}

// busy has something under way of all kinds, and more that can be done.
func busy() []api.Act {
	l := then(has(0, "a", 7), has(1, "b", 7)...)
	return then(l, send(0, 1, 1), send(1, 0, 2), send(1, 1, 4), fund("c", 3), ask(0, "c", 3), kept(toMint(0)), again(0))
}

// goesOn shows what the scene does not: power, what is in the lists, and in which order.
func goesOn() []api.Act {
	l := []api.Act{fund("x", 1), toMint(0), toWallet(0), toMint(0), toWallet(0), toWallet(0), exchange(0, 3), exchange(1, 1), toMint(0), toMint(0), toWallet(0), toWallet(0)}
	return then(l, receive(0), receive(1), toMint(1), toMint(0), toWallet(0), toWallet(0), receive(1), pay(0, "s", 2), settle())
}

// around is a story with acts in its midst.
func around(l ...api.Act) []api.Act { return slices.Concat(busy(), l, goesOn()) }

func played(t *testing.T, l []api.Act) api.Scene {
	t.Helper()
	s, errno := Play(worldOf(2), l)
	if errno != api.OK {
		t.Fatalf("P1: %d", errno)
	}
	return s
}

// areNothing holds that acts change nothing, and nothing of what comes behind them.
func areNothing(t *testing.T, acts []api.Act) {
	t.Helper()
	before, after := played(t, busy()), played(t, around())
	each(t, acts, func(t *testing.T, a api.Act) {
		p := story(t, 2, then(busy(), a)...)
		p.stands("what is nothing", before)
		p.act(goesOn()...)
		p.stands("what is nothing, and what comes behind it", after)
		plays(t, "what is nothing, and what comes behind it", 2, p.acts, after)
	})
}

// wholeAct is an act with all that it may need.
func wholeAct(do int) api.Act {
	a := api.Act{Do: do, N: 1, Amount: 1, Name: "d"}
	switch do {
	case api.ActAsk, api.ActPay, api.ActChange, api.ActReceive:
		a.Who = 1
	case api.ActSend:
		a.Amount = 2
	}
	return a
}

func TestNegativeNumbers(t *testing.T) {
	var nothing []api.Act
	for _, do := range allActs() {
		for _, n := range []int{-1, math.MinInt} {
			a := wholeAct(do)
			a.N = n
			if do == api.ActMintPower || do == api.ActPower {
				armed := a
				armed.N = 5
				story(t, 2, around(armed, a)...).ends()
				plays(t, "power for any number of bytes", 2, around(armed, a), played(t, around()))
			} else {
				nothing = append(nothing, a)
			}
		}
	}
	areNothing(t, nothing)
}

// needsWho tells of the acts for which Who is a wallet.
func needsWho(do int) bool {
	switch do {
	case api.ActAsk, api.ActSend, api.ActReceive, api.ActPay, api.ActChange, api.ActAgain, api.ActPower, api.ActOpen:
		return true
	}
	return false
}

func TestWhoIsNoWallet(t *testing.T) {
	var nothing, others []api.Act
	for _, do := range allActs() {
		for _, who := range noWallets(2) {
			a := wholeAct(do)
			a.Who = who
			if needsWho(do) {
				nothing = append(nothing, a)
			} else {
				others = append(others, a)
			}
		}
	}
	for _, n := range noWallets(2) {
		nothing = append(nothing, send(0, n, 2))
	}
	areNothing(t, nothing)
	each(t, others, func(t *testing.T, a api.Act) {
		plays(t, "an act that needs no wallet", 2, around(a), played(t, around(wholeAct(a.Do))))
	})
}

// Each act, but that opens what has its power, shows here: so it would be seen where it must be nothing.
func TestActsShow(t *testing.T) {
	before, after := played(t, busy()), played(t, around())
	for _, do := range allActs() {
		a := wholeAct(do)
		shows := !sameScene(played(t, then(busy(), a)), before) || !sameScene(played(t, around(a)), after)
		if shows == (do == api.ActMintOpen || do == api.ActOpen) {
			t.Errorf("whether act %d shows: %v", do, shows)
		}
	}
}

func TestUnknownActs(t *testing.T) {
	var nothing []api.Act
	for _, do := range []int{0, -1, 17, 18, 257, 1<<32 + 1, -16, math.MaxInt, math.MinInt} {
		nothing = append(nothing, api.Act{Do: do, Amount: 2, Name: "d"}, api.Act{Do: do, N: 1, Who: 1, Amount: 2, Name: "d", Keep: true})
	}
	areNothing(t, nothing)
}

// withOthers has other things where an act does not need them.
func withOthers(a api.Act) api.Act {
	switch a.Do {
	case api.ActFund, api.ActAsk, api.ActReceive, api.ActPay, api.ActChange, api.ActAgain, api.ActMintOpen, api.ActOpen, api.ActSettle:
		a.N = math.MaxInt
	}
	if !needsWho(a.Do) {
		a.Who = 1
	}
	switch a.Do {
	case api.ActReceive, api.ActMint, api.ActWallet:
	default:
		a.Keep = true
	}
	switch a.Do {
	case api.ActFund, api.ActAsk, api.ActPay:
	case api.ActSend, api.ActChange:
		a.Name = "other"
	default:
		a.Name, a.Amount = "other", 1000
	}
	return a
}

// What an act does not need does not count.
func TestWhatDoesNotCount(t *testing.T) {
	each(t, allActs(), func(t *testing.T, do int) {
		a := wholeAct(do)
		b := withOthers(a)
		plays(t, "an act with what does not count", 2, then(busy(), b), played(t, then(busy(), a)))
		plays(t, "an act with what does not count", 2, around(b), played(t, around(a)))
	})
}
