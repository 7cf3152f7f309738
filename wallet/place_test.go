package wallet

import (
	"bytes"
	"reflect"
	"slices"
	"strconv"
	"testing"

	"mintvault/api"
	"mintvault/keys"
	"mintvault/wire"
)

// No seed is known of which two outputs have the same secret; so tokens that have are laid into the wallet here.

// sort is an amount and a secret.
type sort struct {
	amount uint64
	secret string
}

// set is the keys of a mint.
func set() api.Keyset {
	k, _ := keys.Set(make([]byte, 32), 0)
	return k
}

// tokensOf has a token of each sort. By their signatures they are told apart, unless these are all to be the same.
func tokensOf(k api.Keyset, alike bool, sorts ...sort) []api.Token {
	var l []api.Token
	for i, s := range sorts {
		mark := byte(i + 1)
		if alike {
			mark = 1
		}
		l = append(l, api.Token{Amount: s.amount, Keys: bytes.Clone(k.Name), Secret: []byte(s.secret), Sign: bytes.Repeat([]byte{mark}, 33)})
	}
	return l
}

// laid is a wallet, and the tokens that it was given.
type laid struct {
	*testing.T
	w    *Wallet
	all  []api.Token
	what string
}

func lay(t *testing.T, k api.Keyset, alike bool, sorts ...sort) laid {
	t.Helper()
	w, errno := New(make([]byte, 32), api.MaxBytes, k)
	if errno != api.OK {
		t.Fatalf("V1: New: %d", errno)
	}
	w.tokens = tokensOf(k, alike, sorts...)
	what := "tokens"
	for _, s := range sorts {
		what += " " + strconv.FormatUint(s.amount, 10) + s.secret
	}
	return laid{t, w, tokensOf(k, alike, sorts...), what}
}

// of are the tokens that lay at these places at first.
func (l laid) of(places []int) []api.Token {
	var some []api.Token
	for _, place := range places {
		some = append(some, l.all[place])
	}
	return some
}

func sameTokens(a, b []api.Token) bool {
	return slices.EqualFunc(a, b, func(a, b api.Token) bool { return reflect.DeepEqual(a, b) })
}

// has holds that the wallet has just those that lay at these places.
func (l laid) has(call string, places ...int) {
	l.Helper()
	want := l.of(places)
	sum := uint64(0)
	for _, t := range want {
		sum += t.Amount
	}
	if got := l.w.Tokens(); !sameTokens(got, want) || l.w.Balance() != sum {
		l.Errorf("V2, V3: %s: behind %s: a balance of %d, want %d, tokens %v, want %v", l.what, call, l.w.Balance(), sum, got, want)
	}
}

// sends holds which ones are sent, in order, and which stay.
func (l laid) sends(amount uint64, taken, stay []int) {
	l.Helper()
	call := "Send of " + strconv.FormatUint(amount, 10)
	got, errno := l.w.Send(amount)
	want, _ := wire.PutTokens(l.of(taken))
	if errno != api.OK || got != want {
		l.Errorf("V3: %s: %s: %q, %d, want %q", l.what, call, got, errno, want)
	}
	l.has(call, stay...)
}

// asks holds which ones a request takes, in order, and which stay.
func (l laid) asks(call string, r api.Request, errno api.Errno, taken, stay []int) {
	l.Helper()
	if errno != api.OK || !sameTokens(r.In, l.of(taken)) {
		l.Errorf("V2: %s: %s: %+v, %d, want In as those at %v", l.what, call, r, errno, taken)
	}
	if open, ok := l.w.Asked(); !ok || !sameTokens(open.In, r.In) {
		l.Errorf("V5: %s: behind %s: Asked: %+v", l.what, call, open)
	}
	l.has(call, stay...)
}

// refused holds that what was taken comes behind what stayed.
func (l laid) refused(taken, stay []int) {
	l.Helper()
	if errno := l.w.Refused(); errno != api.OK {
		l.Errorf("V4: %s: Refused: %d", l.what, errno)
	}
	l.has("Refused", slices.Concat(stay, taken)...)
}

func (l laid) pays(amount uint64, taken, stay []int) {
	l.Helper()
	r, errno := l.w.Pay("a", amount)
	l.asks("Pay of "+strconv.FormatUint(amount, 10), r, errno, taken, stay)
}

func (l laid) changes(amount uint64, taken, stay []int) {
	l.Helper()
	r, errno := l.w.Change(amount)
	l.asks("Change of "+strconv.FormatUint(amount, 10), r, errno, taken, stay)
}

func ints(l ...int) []int { return l }

// row is what is asked for with tokens of these sorts, and the places of what is taken and of what stays.
type row struct {
	sorts       []sort
	amount      uint64
	taken, stay []int
}

// The one that is taken goes, and no other of the same secret: it lies ahead of it or behind it.
func TestSendOfTheSameSecret(t *testing.T) {
	k := set()
	for _, x := range []row{
		{[]sort{{1, "s"}, {2, "s"}}, 1, ints(0), ints(1)},
		{[]sort{{1, "s"}, {2, "s"}}, 2, ints(1), ints(0)},
		{[]sort{{2, "s"}, {1, "s"}}, 1, ints(1), ints(0)},
		{[]sort{{2, "s"}, {1, "s"}}, 2, ints(0), ints(1)},
		{[]sort{{1, "s"}, {2, "s"}}, 3, ints(1, 0), nil},
		{[]sort{{1, "s"}, {1, "s"}}, 1, ints(0), ints(1)},
		{[]sort{{1, "s"}, {1, "s"}}, 2, ints(0, 1), nil},
		{[]sort{{1, "s"}, {1, "s"}, {1, "s"}}, 2, ints(0, 1), ints(2)},
		{[]sort{{4, "t"}, {1, "s"}, {8, "s"}, {4, "u"}}, 9, ints(2, 1), ints(0, 3)},
		{[]sort{{8, "s"}, {4, "t"}, {1, "s"}, {4, "u"}}, 5, ints(1, 2), ints(0, 3)},
		{[]sort{{2, "s"}, {1, "t"}, {2, "t"}, {1, "s"}}, 3, ints(0, 1), ints(2, 3)},
	} {
		for _, alike := range []bool{false, true} {
			lay(t, k, alike, x.sorts...).sends(x.amount, x.taken, x.stay)
		}
	}
}

func TestAskingWithTheSameSecret(t *testing.T) {
	k := set()
	for _, x := range []row{
		{[]sort{{1, "s"}, {2, "s"}}, 1, ints(0), ints(1)},
		{[]sort{{2, "s"}, {1, "s"}}, 1, ints(0), ints(1)},
		{[]sort{{2, "s"}, {1, "s"}}, 2, ints(0), ints(1)},
		{[]sort{{2, "s"}, {1, "s"}}, 3, ints(0, 1), nil},
		{[]sort{{1, "s"}, {1, "s"}}, 1, ints(0), ints(1)},
		{[]sort{{1, "s"}, {1, "s"}, {1, "s"}}, 2, ints(0, 1), ints(2)},
		{[]sort{{4, "t"}, {1, "s"}, {8, "s"}, {4, "u"}}, 5, ints(0, 1), ints(2, 3)},
		{[]sort{{2, "s"}, {1, "t"}, {2, "t"}, {1, "s"}}, 3, ints(0, 1), ints(2, 3)},
	} {
		for _, alike := range []bool{false, true} {
			p := lay(t, k, alike, x.sorts...)
			p.pays(x.amount, x.taken, x.stay)
			p.refused(x.taken, x.stay)
			p = lay(t, k, alike, x.sorts...)
			p.changes(x.amount, x.taken, x.stay)
			p.refused(x.taken, x.stay)
		}
	}
}

// Behind a refusal the one that lay behind the other lies ahead of it, and is taken.
func TestTheSameSecretBehindARefusal(t *testing.T) {
	k := set()
	for _, sorts := range [][]sort{{{2, "s"}, {1, "s"}}, {{1, "s"}, {2, "s"}}, {{1, "s"}, {1, "s"}}} {
		p := lay(t, k, false, sorts...)
		p.pays(1, ints(0), ints(1))
		p.refused(ints(0), ints(1))
		p.changes(1, ints(1), ints(0))
		p.refused(ints(1), ints(0))
		p.changes(1, ints(0), ints(1))
		p.sends(sorts[1].amount, ints(1), nil) // while the other one is taken
		p.refused(ints(0), nil)
		p.pays(1, ints(0), nil)
	}
}

// lists are all lists of 1 to n of these sorts.
func lists(n int, sorts []sort) [][]sort {
	all := [][]sort{nil}
	for from := 0; n > 0; n-- {
		to := len(all)
		for _, l := range all[from:to] {
			for _, s := range sorts {
				all = append(all, append(slices.Clip(l), s))
			}
		}
		from = to
	}
	return all[1:]
}

// others are the places that are not among these.
func (l laid) others(places []int) []int {
	var rest []int
	for place := range l.all {
		if !slices.Contains(places, place) {
			rest = append(rest, place)
		}
	}
	return rest
}

// just goes through the amounts, the greatest ones first, and tells whether the amount comes out.
func (l laid) just(amount uint64) (places []int, ok bool) {
	for part := uint64(4); part > 0; part /= 2 {
		for place, t := range l.all {
			if t.Amount == part && part <= amount {
				places = append(places, place)
				amount -= part
			}
		}
	}
	return places, amount == 0
}

func (l laid) least(amount uint64) (places []int) {
	sum := uint64(0)
	for place, t := range l.all {
		if sum < amount {
			places = append(places, place)
			sum += t.Amount
		}
	}
	return places
}

func TestAllThatMayBeSent(t *testing.T) {
	k := set()
	for _, sorts := range lists(4, []sort{{1, "s"}, {2, "s"}, {4, "s"}, {2, "t"}}) {
		sum := lay(t, k, false, sorts...).w.Balance()
		for amount := range sum {
			p := lay(t, k, false, sorts...)
			if taken, ok := p.just(amount + 1); ok {
				p.sends(amount+1, taken, p.others(taken))
			} else if _, errno := p.w.Send(amount + 1); errno != api.ErrNone {
				t.Errorf("V3: %s: Send of %d: %d", p.what, amount+1, errno)
			} else {
				p.has("a Send that is refused", p.others(nil)...)
			}
		}
	}
}

func TestAllThatMayBeTaken(t *testing.T) {
	k := set()
	for _, sorts := range lists(3, []sort{{1, "s"}, {2, "s"}, {2, "t"}}) {
		sum := lay(t, k, false, sorts...).w.Balance()
		for amount := range sum {
			p := lay(t, k, false, sorts...)
			taken := p.least(amount + 1)
			p.pays(amount+1, taken, p.others(taken))
			p.refused(taken, p.others(taken))
			p = lay(t, k, false, sorts...)
			p.changes(amount+1, taken, p.others(taken))
			p.refused(taken, p.others(taken))
		}
	}
}
