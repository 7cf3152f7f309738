package wallet_test

import (
	"bytes"
	"math"
	"slices"
	"testing"

	"mintvault/api"
)

// stroke is a call that has a record, of a wallet that may do it.
type stroke struct {
	from   *twin
	record []byte
	do     func(*twin, api.Errno)
}

// strokes are one of each kind.
func strokes(t *testing.T) []stroke {
	t.Helper()
	p := with(t, 3)
	q := p.again(room)
	q.change(2, api.OK)
	one := with(t, 2)
	one.pay("a", 1, api.OK)
	text, list := textOf(foreign("p", 2)), answerTo(*one.d.open)
	return []stroke{
		{p, callOf(1, "order", 5), func(p *twin, e api.Errno) { p.ask("order", 5, e) }},
		{p, callOf(2, text, 0), func(p *twin, e api.Errno) { p.receive(text, e) }},
		{p, callOf(3, "shop", 2), func(p *twin, e api.Errno) { p.pay("shop", 2, e) }},
		{p, callOf(4, "", 2), func(p *twin, e api.Errno) { p.change(2, e) }},
		{p, callOf(5, "", 2), func(p *twin, e api.Errno) { p.send(2, e) }},
		{one, callOf(6, "", 0, list...), func(p *twin, e api.Errno) { p.answer(list, e) }},
		{q, callOf(7, "", 0), func(p *twin, e api.Errno) { p.refused(e) }},
	}
}

// isDark holds that each call that has a record answers ErrPower, ahead of all else, and that nothing changes.
func isDark(p *twin) {
	p.Helper()
	for _, name := range []string{"", "a", nameOf(64), nameOf(65)} {
		for _, amount := range []uint64{0, 1, 3, 1 << 40, 1<<40 + 1, math.MaxUint64} {
			p.ask(name, amount, api.ErrPower)
			p.pay(name, amount, api.ErrPower)
			p.change(amount, api.ErrPower)
			p.send(amount, api.ErrPower)
		}
	}
	for _, text := range []string{"", "mv1", textOf(foreign("p", 2)), spoilt(func(k *api.Token) { k.Amount = 3 })[0]} {
		p.receive(text, api.ErrPower)
	}
	lists := [][]api.Signed{nil, {}, {{}}, make([]api.Signed, 65)}
	if p.d.open != nil {
		lists = append(lists, answerTo(*p.d.open))
	}
	for _, l := range lists {
		p.answer(l, api.ErrPower)
	}
	p.refused(api.ErrPower)
}

// fallsDark does it with fewer bytes than it needs.
func (s stroke) fallsDark(p *twin, n int) {
	p.Helper()
	whole := bytes.Clone(p.d.disk)
	s.do(p, api.ErrPower)
	if !bytes.Equal(p.w.Disk(), append(whole, frame(len(p.d.records), s.record)[:n]...)) {
		p.Errorf("V1: with %d bytes: %d lie on the disk", n, len(p.w.Disk()))
	}
	if n%50 == 0 {
		for _, more := range []int{-1, 0, 1 << 20} {
			p.arm(more)
			isDark(p)
		}
	}
	s.do(p, api.ErrPower)
	q := p.again(room)
	if !bytes.Equal(q.w.Disk(), whole) {
		p.Errorf("V1: with %d bytes: behind Open %d lie on the disk", n, len(q.w.Disk()))
	}
	s.do(q, api.OK)
	q.again(room)
}

// staysLit does it with enough bytes; what is left over does not do for another one.
func (s stroke) staysLit(p *twin, n int) {
	p.Helper()
	s.do(p, api.OK)
	if !bytes.Equal(p.w.Disk(), diskOf(append(slices.Clip(s.from.d.records), s.record)...)) {
		p.Errorf("V1: with %d bytes: it is not recorded", n)
	}
	p.again(room)
	p.arm(-1)
	if p.d.open == nil {
		p.ask("next", 1, api.OK)
	}
	p.arm(n - len(s.record) - around)
	p.refused(api.ErrPower)
	p.again(room).refused(api.OK)
}

// Each number of bytes below, at and above those of a frame.
func TestPower(t *testing.T) {
	for _, s := range strokes(t) {
		size := len(s.record) + around
		for n := range size + 8 {
			p := s.from.again(room)
			p.arm(n)
			if n < size {
				s.fallsDark(p, n)
			} else {
				s.staysLit(p, n)
			}
		}
	}
}

// What is refused writes nothing: the power stays.
func TestPowerStays(t *testing.T) {
	p := with(t, 5)
	p.arm(0)
	p.ask("", 1, api.ErrForm)
	p.ask("a", 0, api.ErrRange)
	p.receive("", api.ErrForm)
	p.pay("a", 6, api.ErrFunds)
	p.change(6, api.ErrFunds)
	p.send(3, api.ErrNone)
	p.answer(nil, api.ErrState)
	p.refused(api.ErrState)
	p.arm(-5)
	p.change(3, api.OK)
	p.arm(0)
	p.ask("a", 1, api.ErrState)
	p.answer(nil, api.ErrProof)
	p.arm(math.MinInt)
	p.served()
	p.arm(math.MaxInt)
	p.send(3, api.OK)
	p.arm(0)
	p.send(2, api.ErrPower)
	isDark(p)
}

// Bytes are used up by one record behind the other.
func TestPowerForSeveral(t *testing.T) {
	p := with(t, 5)
	q := p.again(room)
	before := len(q.d.disk)
	calls := func(p *twin) {
		p.change(2, api.OK)
		p.send(4, api.ErrFunds)
		p.served()
		p.pay("a", 1, api.OK)
		p.send(1, api.OK)
	}
	calls(q)
	sum := len(q.d.disk) - before
	p.arm(sum)
	calls(p)
	p.refused(api.ErrPower)
	p.again(room).refused(api.OK)
}
