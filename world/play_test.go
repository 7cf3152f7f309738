package world

import (
	"math"
	"slices"
	"strconv"
	"testing"

	"mintvault/api"
)

func TestWrongWorlds(t *testing.T) {
	acts := []int{0, 1, 256, 257, 1000}
	for _, seed := range [][]byte{nil, {}, some(1, "s"), some(31, "s"), some(33, "s"), some(64, "s")} {
		for _, wallets := range []int{1, 4, 0, 5, -1} {
			for _, n := range acts {
				refuses(t, "no seed", api.World{Seed: seed, Wallets: wallets}, make([]api.Act, n), api.ErrForm)
			}
		}
	}
	for _, wallets := range []int{0, 5, -1, 6, -4, 256, 1<<32 + 1, math.MaxInt, math.MinInt} {
		for _, n := range acts {
			refuses(t, "too few wallets, or too many", worldOf(wallets), make([]api.Act, n), api.ErrRange)
		}
	}
	for wallets := 1; wallets <= 4; wallets++ {
		for _, n := range []int{257, 258, 512, 100000} {
			refuses(t, "too many acts", worldOf(wallets), make([]api.Act, n), api.ErrLong)
			refuses(t, "too many acts", worldOf(wallets), slices.Repeat([]api.Act{fund("a", 1)}, n), api.ErrLong)
		}
	}
}

// At first there is nothing; and acts that are none change nothing.
func TestAtFirst(t *testing.T) {
	for wallets := 1; wallets <= 4; wallets++ {
		empty := api.Scene{Balances: make([]uint64, wallets), Open: make([]bool, wallets)}
		plays(t, "no acts", wallets, nil, empty)
		for _, n := range []int{0, 1, 255, 256} {
			plays(t, "acts that are none", wallets, make([]api.Act, n), empty)
		}
	}
}

// All of 256 acts are done, in order.
func TestManyActs(t *testing.T) {
	var l []api.Act
	for i := range 252 {
		l = append(l, fund("order "+strconv.Itoa(i), 1))
	}
	l = then(l, fund("last", 5), ask(0, "last", 5), toMint(0), toWallet(0))
	plays(t, "256 acts", 1, l, api.Scene{Book: api.Book{Funded: 257, Used: 5, Issued: 5, Count: 1}, Balances: []uint64{5}, Open: []bool{false}})
}

// The document's example.
func TestExample(t *testing.T) {
	l := []api.Act{fund("a", 7), ask(0, "a", 7), toMint(0), toWallet(0), send(0, 1, 2), settle()}
	got, errno := Play(api.World{Seed: make([]byte, 32), Wallets: 2}, l)
	want := api.Scene{Book: api.Book{Funded: 7, Used: 7, Issued: 9, Spent: 2, Count: 2}, Balances: []uint64{5, 2}, Open: []bool{false, false}}
	if errno != api.OK || !sameScene(got, want) {
		t.Errorf("P1: the example: %+v, %d, want %+v", got, errno, want)
	}
}

// step is an act, and how all stands behind it.
type step struct {
	act  api.Act
	want api.Scene
}

// holdSteps plays each beginning of a story.
func holdSteps(t *testing.T, wallets int, l []step) {
	t.Helper()
	p := newTwin(t, wallets)
	var acts []api.Act
	for i, x := range l {
		what := "step " + strconv.Itoa(i)
		acts = append(acts, x.act)
		plays(t, what, wallets, acts, x.want)
		p.act(x.act)
		p.stands(what, x.want)
	}
}

// All that is asked for is heard, and so is all that is said of it.
func TestAStory(t *testing.T) {
	no, first, second := []bool{false, false}, []bool{true, false}, []bool{false, true}
	funded := api.Book{Funded: 7}
	issued := api.Book{Funded: 7, Used: 7, Issued: 7, Count: 1}
	received := api.Book{Funded: 7, Used: 7, Issued: 9, Spent: 2, Count: 2}
	paid := api.Book{Funded: 7, Used: 7, Issued: 11, Spent: 7, Paid: 3, Count: 3}
	changed := api.Book{Funded: 7, Used: 7, Issued: 13, Spent: 9, Paid: 3, Count: 4}
	has := func(l ...uint64) []uint64 { return l }
	holdSteps(t, 2, []step{
		{fund("a", 7), api.Scene{Book: funded, Balances: has(0, 0), Open: no}},
		{ask(0, "a", 7), api.Scene{Book: funded, Balances: has(0, 0), Open: first, Requests: 1}},
		{toMint(0), api.Scene{Book: issued, Balances: has(0, 0), Open: first, Answers: 1}},
		{toWallet(0), api.Scene{Book: issued, Balances: has(7, 0), Open: no}},
		{send(0, 1, 2), api.Scene{Book: issued, Balances: has(5, 0), Open: no, Texts: 1, Worth: 2}},
		{receive(1), api.Scene{Book: issued, Balances: has(5, 0), Open: second, Requests: 1}},
		{toMint(0), api.Scene{Book: received, Balances: has(5, 0), Open: second, Answers: 1}},
		{toWallet(0), api.Scene{Book: received, Balances: has(5, 2), Open: no}},
		{pay(0, "shop", 3), api.Scene{Book: received, Balances: has(0, 2), Open: first, Requests: 1}},
		{toMint(0), api.Scene{Book: paid, Balances: has(0, 2), Open: first, Answers: 1}},
		{toWallet(0), api.Scene{Book: paid, Balances: has(2, 2), Open: no}},
		{exchange(1, 1), api.Scene{Book: paid, Balances: has(2, 0), Open: second, Requests: 1}},
		{toMint(0), api.Scene{Book: changed, Balances: has(2, 0), Open: second, Answers: 1}},
		{toWallet(0), api.Scene{Book: changed, Balances: has(2, 2), Open: no}},
		{send(1, 0, 1), api.Scene{Book: changed, Balances: has(2, 1), Open: no, Texts: 1, Worth: 1}},
		{send(0, 0, 2), api.Scene{Book: changed, Balances: has(0, 1), Open: no, Texts: 2, Worth: 3}},
	})
}

// Each act alone, where nothing is: only Fund and Ask do something.
func TestEachActAlone(t *testing.T) {
	for _, do := range allActs() {
		want := api.Scene{Balances: []uint64{0, 0}, Open: []bool{false, false}}
		switch do {
		case api.ActFund:
			want.Book.Funded = 3
		case api.ActAsk:
			want.Open[1], want.Requests = true, 1
		}
		plays(t, "act "+strconv.Itoa(do), 2, []api.Act{{Do: do, Who: 1, Amount: 3, Name: "a"}}, want)
	}
}

// What a call answers an errno for is not done, and nothing is under way of it.
func TestCallsThatAreRefused(t *testing.T) {
	name := string(some(65, "name"))
	base := story(t, 2, then(has(0, "a", 5), fund("b", 9))...)
	for _, a := range []api.Act{
		fund("", 1), fund(name, 1), fund("c", 0), fund("c", 1<<40+1), fund("a", 5), fund("b", 1),
		ask(0, "", 1), ask(0, name, 1), ask(0, "b", 0), ask(0, "b", 1<<25+1), ask(0, "b", math.MaxUint64),
		pay(0, "", 1), pay(0, name, 1), pay(0, "s", 0), pay(0, "s", 6), pay(0, "s", 1<<40+1), pay(1, "s", 1),
		exchange(0, 0), exchange(0, 6), exchange(0, math.MaxUint64), exchange(1, 1),
		send(0, 1, 0), send(0, 1, 6), send(0, 1, 2), send(0, 1, 3), send(1, 0, 1),
		receive(0), receive(1), again(0), again(1),
	} {
		plays(t, "what is refused", 2, then(base.acts, a), base.s.scene())
	}
	waits := story(t, 2, then(base.acts, ask(0, "b", 9), send(0, 0, 4))...)
	for _, a := range []api.Act{ask(0, "b", 9), pay(0, "s", 1), exchange(0, 1), receive(0)} {
		plays(t, "a request is open", 2, then(waits.acts, a), waits.s.scene())
	}
	waits.act(send(0, 1, 1))
	waits.has("Send while a request is open", 1, 0, 2, 0, 0)
}
