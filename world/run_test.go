package world

import (
	"crypto/sha3"
	"encoding/binary"
	"fmt"
	"math"
	"strconv"
	"strings"
	"sync"
	"testing"

	"mintvault/api"
)

// dice tell a run what happens.
type dice struct {
	*sha3.SHAKE
}

func newDice(name string) dice {
	d := dice{sha3.NewSHAKE128()}
	d.Write([]byte(name))
	return d
}

func (d dice) pick(n int) int {
	var b [8]byte
	d.Read(b[:])
	return int(binary.BigEndian.Uint64(b[:]) % uint64(n))
}

// number is mostly one of the first ones.
func (d dice) number(n int) int {
	if d.pick(25) == 0 {
		l := []int{-1, n, n + 1, math.MaxInt, math.MinInt, 255}
		return l[d.pick(len(l))]
	}
	return d.pick(n)
}

// odd is an amount that is hardly ever right.
func (d dice) odd() uint64 {
	l := []uint64{0, 1 << 19, 1<<25 + 1, 1 << 40, 1<<40 + 1, math.MaxUint64}
	return l[d.pick(len(l))]
}

// amount is mostly one that whoever has so much has, too.
func (d dice) amount(balance uint64) uint64 {
	switch d.pick(20) {
	case 0:
		return d.odd()
	case 1:
		return balance + uint64(d.pick(2))
	}
	return 1 + uint64(d.pick(int(min(balance, 60))+1))
}

// order is a name, and an amount that mostly hangs on it.
func (d dice) order() (string, uint64) {
	n := d.pick(15)
	name, amount := "order "+strconv.Itoa(n), uint64(1+n*7%40)
	switch d.pick(9) {
	case 0:
		return string(some([]int{0, 1, 64, 65}[d.pick(4)], "name")), amount
	case 1:
		return name, d.odd()
	case 2:
		return name, d.amount(20)
	}
	return name, amount
}

// drawn is an act that mostly can be done.
func (p *twin) drawn(d dice) api.Act {
	a := api.Act{Do: 1 + d.number(16), Who: d.number(len(p.s.owners)), N: d.number(4), Keep: d.pick(8) == 0}
	switch n := d.pick(10); {
	case n < 3 && len(p.s.requests) > 0:
		a.Do = api.ActMint
	case n < 6 && len(p.s.answers) > 0:
		a.Do = api.ActWallet
	case n == 6 && len(p.s.texts) > 0:
		a.Do, a.Who = api.ActReceive, p.s.texts[0].to
	case n == 7 && d.pick(2) == 0:
		a.Do = api.ActSend
	}
	if a.Do == api.ActSettle && d.pick(3) > 0 {
		a.Do = api.ActAgain
	}
	balance := uint64(0)
	if p.d.isWallet(a.Who) {
		balance = worth(p.d.purses[a.Who].coins)
	}
	a.Name, a.Amount = "shop", d.amount(balance)
	switch a.Do {
	case api.ActFund, api.ActAsk:
		a.Name, a.Amount = d.order()
		if _, there := p.d.bank.orders[a.Name]; !there && d.pick(2) > 0 {
			a.Do = api.ActFund
		}
	case api.ActSend:
		a.N = d.number(len(p.s.owners))
	case api.ActMintPower, api.ActPower:
		a.N = d.pick(900) - 100
	}
	return a
}

// runs plays stories that are drawn, each by itself.
func runs(t *testing.T, n int, run func(p *twin, d dice)) map[string]int {
	t.Helper()
	seen := map[string]int{}
	var lock sync.Mutex
	t.Run("runs", func(t *testing.T) {
		for i := range n {
			t.Run(strconv.Itoa(i), func(t *testing.T) {
				t.Parallel()
				d := newDice(t.Name())
				p := newTwin(t, 1+d.pick(4))
				run(p, d)
				p.ends()
				lock.Lock()
				defer lock.Unlock()
				for what, n := range p.d.seen {
					seen[what] += n
				}
			})
		}
	})
	return seen
}

// begins has tokens in each wallet.
func (p *twin) begins(d dice) {
	for who := range p.s.owners {
		p.act(has(who, "first "+strconv.Itoa(who), uint64(1+d.pick(100)))...)
	}
}

// Whatever happens, all is as the document tells it, and the books agree.
func TestRuns(t *testing.T) {
	seen := runs(t, 90, func(p *twin, d dice) {
		p.begins(d)
		careful := d.pick(3) > 0 // no text is kept
		for range d.pick(230) {
			a := p.drawn(d)
			if a.Do == api.ActReceive {
				a.Keep = !careful && d.pick(2) == 0
			}
			p.act(a)
		}
		p.act(settle())
	})
	for _, what := range strings.Split("nothing,no entry,no text,another one is open", ",") {
		isSeen(t, seen, what, 0)
	}
	for what, errnos := range map[string][]api.Errno{
		"fund":    {api.OK, api.ErrPower, api.ErrForm, api.ErrRange, api.ErrTwice},
		"ask":     {api.OK, api.ErrPower, api.ErrState, api.ErrForm, api.ErrRange, api.ErrLong},
		"pay":     {api.OK, api.ErrPower, api.ErrState, api.ErrRange, api.ErrFunds},
		"change":  {api.OK, api.ErrPower, api.ErrState, api.ErrRange, api.ErrFunds},
		"send":    {api.OK, api.ErrPower, api.ErrRange, api.ErrFunds, api.ErrNone},
		"receive": {api.OK, api.ErrPower, api.ErrState},
		"mint":    {api.OK, api.ErrPower, api.ErrSpent, api.ErrQuote, api.ErrState, api.ErrSum},
		"hear":    {api.OK, api.ErrPower, api.ErrSpent, api.ErrQuote, api.ErrState, api.ErrSum},
		"answer":  {api.OK, api.ErrPower},
		"refused": {api.OK},
		"serve":   {api.OK},
	} {
		for _, errno := range errnos {
			isSeen(t, seen, fmt.Sprint(what, " ", int(errno)), 1)
		}
	}
}

func isSeen(t *testing.T, seen map[string]int, what string, times int) {
	t.Helper()
	if seen[what] <= times {
		t.Errorf("the runs have come upon %q only %d times", what, seen[what])
	}
}
