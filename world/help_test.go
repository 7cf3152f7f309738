package world

import (
	"crypto/sha3"
	"math"
	"reflect"
	"slices"
	"strconv"
	"testing"

	"mintvault/api"
)

// some makes n bytes; other seeds make others.
func some(n int, seed string) []byte { return sha3.SumSHAKE128([]byte(seed), n) }

func worldOf(wallets int) api.World { return api.World{Seed: some(32, "world"), Wallets: wallets} }

// The acts, with what each of them needs.
func fund(name string, amount uint64) api.Act {
	return api.Act{Do: api.ActFund, Name: name, Amount: amount}
}

func ask(who int, name string, amount uint64) api.Act {
	return api.Act{Do: api.ActAsk, Who: who, Name: name, Amount: amount}
}

func send(who, to int, amount uint64) api.Act {
	return api.Act{Do: api.ActSend, Who: who, N: to, Amount: amount}
}

func receive(who int) api.Act { return api.Act{Do: api.ActReceive, Who: who} }

func pay(who int, name string, amount uint64) api.Act {
	return api.Act{Do: api.ActPay, Who: who, Name: name, Amount: amount}
}

func exchange(who int, amount uint64) api.Act {
	return api.Act{Do: api.ActChange, Who: who, Amount: amount}
}

func toMint(n int) api.Act     { return api.Act{Do: api.ActMint, N: n} }
func toWallet(n int) api.Act   { return api.Act{Do: api.ActWallet, N: n} }
func again(who int) api.Act    { return api.Act{Do: api.ActAgain, Who: who} }
func mintPower(n int) api.Act  { return api.Act{Do: api.ActMintPower, N: n} }
func power(who, n int) api.Act { return api.Act{Do: api.ActPower, Who: who, N: n} }
func mintOpen() api.Act        { return api.Act{Do: api.ActMintOpen} }
func open(who int) api.Act     { return api.Act{Do: api.ActOpen, Who: who} }
func lose(n int) api.Act       { return api.Act{Do: api.ActLose, N: n} }
func loseAnswer(n int) api.Act { return api.Act{Do: api.ActLoseAnswer, N: n} }
func settle() api.Act          { return api.Act{Do: api.ActSettle} }

func kept(a api.Act) api.Act {
	a.Keep = true
	return a
}

// heard has the first request heard, and what is said of it.
func heard(a api.Act) []api.Act { return []api.Act{a, toMint(0), toWallet(0)} }

// has lets a wallet have an amount, under a name.
func has(who int, name string, amount uint64) []api.Act {
	return append([]api.Act{fund(name, amount)}, heard(ask(who, name, amount))...)
}

func then(l []api.Act, more ...api.Act) []api.Act { return slices.Concat(l, more) }

// sameScene takes nil and lists without entries for the same (E3).
func sameScene(a, b api.Scene) bool {
	return a.Book == b.Book && slices.Equal(a.Balances, b.Balances) && slices.Equal(a.Open, b.Open) &&
		a.Requests == b.Requests && a.Answers == b.Answers && a.Texts == b.Texts && a.Worth == b.Worth
}

// plays holds what Play tells, as it is written in a test.
func plays(t *testing.T, what string, wallets int, l []api.Act, want api.Scene) {
	t.Helper()
	got, errno := Play(worldOf(wallets), l)
	if errno != api.OK || !sameScene(got, want) {
		t.Errorf("P1: %s: %+v, %d, want %+v", what, got, errno, want)
	}
}

// refuses holds that Play tells an error, and nothing else (E4).
func refuses(t *testing.T, what string, w api.World, l []api.Act, want api.Errno) {
	t.Helper()
	got, errno := Play(w, l)
	if errno != want || !reflect.DeepEqual(got, api.Scene{}) {
		t.Errorf("P1: %s: %+v, %d, want %d", what, got, errno, want)
	}
}

// allActs are the numbers of the acts.
func allActs() []int {
	var l []int
	for do := api.ActFund; do <= api.ActSettle; do++ {
		l = append(l, do)
	}
	return l
}

// noWallets are numbers that are no wallet's, where there are so many.
func noWallets(wallets int) []int { return []int{-1, wallets, math.MaxInt, math.MinInt} }

// each holds all of a list, several at a time.
func each[T any](t *testing.T, l []T, hold func(t *testing.T, x T)) {
	t.Helper()
	t.Run("each", func(t *testing.T) {
		for i, x := range l {
			t.Run(strconv.Itoa(i), func(t *testing.T) {
				t.Parallel()
				hold(t, x)
			})
		}
	})
}
