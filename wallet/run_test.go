package wallet_test

import (
	"crypto/sha3"
	"encoding/binary"
	"strconv"
	"testing"

	"mintvault/api"
)

// dice tell a run what it does.
type dice struct {
	*sha3.SHAKE
}

func (d dice) pick(n int) int {
	var b [8]byte
	d.Read(b[:])
	return int(binary.BigEndian.Uint64(b[:]) % uint64(n))
}

func (d dice) name() string {
	if d.pick(10) == 0 {
		return nameOf([]int{0, 1, 64, 65}[d.pick(4)])
	}
	return "run"
}

// amount is mostly one that a wallet with so much has.
func (d dice) amount(balance uint64) uint64 {
	switch d.pick(12) {
	case 0:
		return amounts()[d.pick(len(amounts()))]
	case 1:
		return balance + uint64(d.pick(2))
	}
	return uint64(d.pick(int(balance%1000) + 2))
}

// text is mostly one that can be received.
func (d dice) text() string {
	if d.pick(3) == 0 {
		all := texts()
		return all[d.pick(len(all))]
	}
	var l []uint64
	for range 1 + d.pick(3) {
		l = append(l, 1<<d.pick(5))
	}
	return textOf(foreign("run "+strconv.Itoa(d.pick(5)), l...))
}

// A long run of calls, held against the document's words after each.
func TestRuns(t *testing.T) {
	seen := map[api.Errno]int{}
	for run := range 50 {
		d := dice{sha3.NewSHAKE128()}
		d.Write([]byte("run " + strconv.Itoa(run)))
		p := begun(t, 1000+d.pick(8000))
		for range 60 {
			p = step(p, d, seen)
		}
	}
	for _, errno := range []api.Errno{api.OK, api.ErrLong, api.ErrForm, api.ErrProof, api.ErrNone, api.ErrRange, api.ErrKeys, api.ErrTwice, api.ErrFunds, api.ErrState, api.ErrFull, api.ErrPower} {
		if seen[errno] < 5 {
			t.Errorf("the runs have come upon %d only %d times", errno, seen[errno])
		}
	}
}

// step does a call with both, and notes what was answered.
func step(p *twin, d dice, seen map[api.Errno]int) *twin {
	p.Helper()
	balance := sumOf(p.d.tokens)
	act := d.pick(20)
	if p.d.open != nil && act < 10 && d.pick(4) > 0 {
		act = 12 + d.pick(4)
	}
	switch {
	case act < 4:
		p.ask(d.name(), d.amount(40), whatever)
	case act < 6:
		p.receive(d.text(), whatever)
	case act < 8:
		p.pay(d.name(), d.amount(balance), whatever)
	case act < 10:
		p.change(d.amount(balance), whatever)
	case act < 12 || act > 17:
		p.send(d.amount(balance), whatever)
	case act < 15:
		p.answer(p.listFor(d), whatever)
	case act == 15:
		p.refused(whatever)
	case act == 16:
		p.arm(d.pick(1500) - 300)
	default:
		p = p.again(p.d.limit)
	}
	seen[p.last]++
	return p
}

// listFor is mostly the answer to what is open.
func (p *twin) listFor(d dice) []api.Signed {
	if p.d.open == nil {
		return nil
	}
	l := answerTo(*p.d.open)
	if len(l) == 0 || d.pick(5) > 0 {
		return l
	}
	i := d.pick(len(l))
	switch d.pick(5) {
	case 0:
		return l[:i]
	case 1:
		return append(l, l[i])
	case 2:
		l[i].Amount *= 2
	case 3:
		l[i].Sign[d.pick(33)] ^= 1
	default:
		l[i].Proof[d.pick(64)] ^= 1
	}
	return l
}
