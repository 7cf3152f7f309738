package world

import (
	"cmp"
	"fmt"
	"slices"

	"mintvault/api"
)

// coin is a token as the document tells of it: an output of a wallet.
type coin struct {
	amount uint64
	who, n int
}

func worth(l []coin) uint64 {
	n := uint64(0)
	for _, c := range l {
		n += c.amount
	}
	return n
}

// wish is a request.
type wish struct {
	kind    int
	name    string
	amount  uint64
	in, out []coin
}

func (w wish) String() string {
	return fmt.Sprintf("%d %q %d %v %v", w.kind, w.name, w.amount, w.in, w.out)
}

// paper is a journal of which the bytes are counted.
type paper struct {
	limit, used, whole int
	armed              bool
	left               int
	off, full          bool
}

func (p *paper) arm(n int) { p.armed, p.left = n >= 0, n }

func (p *paper) reopen() { p.used, p.armed, p.off = p.whole, false, false }

func (p *paper) add(record int) api.Errno {
	frame := 4 + record + 8
	switch {
	case p.off:
		return api.ErrPower
	case p.used+frame > p.limit:
		p.full = true
		return api.ErrFull
	case p.armed && p.left < frame:
		p.used, p.left, p.off = p.used+p.left, 0, true
		return api.ErrPower
	}
	p.used, p.left = p.used+frame, p.left-frame
	p.whole = p.used
	return api.OK
}

// number, data and items are how many bytes the codec takes.
func number(n uint64) int {
	switch {
	case n < 24:
		return 1
	case n < 1<<8:
		return 2
	case n < 1<<16:
		return 3
	case n < 1<<32:
		return 5
	}
	return 9
}

func data(n int) int { return number(uint64(n)) + n }

func items(l []coin, each int) int {
	n := number(uint64(len(l)))
	for _, c := range l {
		n += each + number(c.amount)
	}
	return n
}

const (
	tokenBytes  = 1 + 9 + 34 + 35     // in a request, beside the amount
	hiddenBytes = 1 + 35              // likewise
	signedBytes = 1 + 35 + 35 + 66    // in an answer
	mapBytes    = 1 + 4 + 9 + 34 + 35 // in a text
)

func (w wish) record() int {
	return 1 + 1 + data(len(w.name)) + number(w.amount) + items(w.in, tokenBytes) + items(w.out, hiddenBytes)
}

func callRecord(text int, amount uint64, signed []coin) int {
	return 1 + 1 + data(text) + number(amount) + items(signed, signedBytes)
}

func textBytes(l []coin) int { return 3 + (8*items(l, mapBytes)+5)/6 }

// bank is a mint.
type bank struct {
	paper
	orders map[string]uint64
	gone   map[string]bool // orders whose money was used
	spent  map[coin]bool
	done   map[string]bool
	book   api.Book
}

func newBank() *bank {
	return &bank{paper: paper{limit: 1048576}, orders: map[string]uint64{}, gone: map[string]bool{}, spent: map[coin]bool{}, done: map[string]bool{}}
}

func isNamed(s string) bool { return 1 <= len(s) && len(s) <= 64 }

func (m *bank) fund(name string, amount uint64) api.Errno {
	_, there := m.orders[name]
	switch {
	case m.off:
		return api.ErrPower
	case !isNamed(name):
		return api.ErrForm
	case amount < 1 || amount > 1<<40:
		return api.ErrRange
	case there:
		return api.ErrTwice
	}
	errno := m.add(wish{name: name, amount: amount}.record())
	if errno == api.OK {
		m.orders[name] = amount
		m.book.Funded += amount
	}
	return errno
}

// do does what a wallet asks for, which is formed.
func (m *bank) do(w wish) api.Errno {
	amount, there := m.orders[w.name]
	switch issue := w.kind == api.Issue; {
	case m.off:
		return api.ErrPower
	case m.done[w.String()]:
		return api.OK
	case slices.ContainsFunc(w.in, func(c coin) bool { return m.spent[c] }):
		return api.ErrSpent
	case issue && !there:
		return api.ErrQuote
	case issue && m.gone[w.name]:
		return api.ErrState
	case issue && worth(w.out) != amount, !issue && worth(w.in) != worth(w.out)+w.amount:
		return api.ErrSum
	}
	if errno := m.add(w.record()); errno != api.OK {
		return errno
	}
	m.done[w.String()] = true
	for _, c := range w.in {
		m.spent[c] = true
	}
	if w.kind == api.Issue {
		m.gone[w.name] = true
		m.book.Used += amount
	}
	m.book.Issued, m.book.Spent, m.book.Paid, m.book.Count = m.book.Issued+worth(w.out), m.book.Spent+worth(w.in), m.book.Paid+w.amount, m.book.Count+1
	return api.OK
}

// purse is a wallet.
type purse struct {
	paper
	who   int
	coins []coin
	open  *wish
	back  []coin
	n     int // outputs that were used
}

// split takes the largest that fits, again and again; of too many it tells 65.
func split(amount uint64) []uint64 {
	var l []uint64
	for part := uint64(1) << 19; part > 0 && len(l) <= 64; {
		if part <= amount {
			l, amount = append(l, part), amount-part
		} else {
			part /= 2
		}
	}
	slices.Reverse(l)
	return l
}

// asking opens a request, for which it needs the first coins, a number of them.
func (p *purse) asking(w wish, taken, record int, amounts ...uint64) api.Errno {
	if taken > 64 || len(amounts) > 64 {
		return api.ErrLong
	}
	if errno := p.add(record); errno != api.OK {
		return errno
	}
	for _, amount := range amounts {
		w.out = append(w.out, coin{amount, p.who, p.n})
		p.n++
	}
	p.open, p.back, p.coins = &w, slices.Clone(p.coins[:taken]), slices.Clone(p.coins[taken:])
	return api.OK
}

// first is what each of the calls says that ask for something.
func (p *purse) first() api.Errno {
	switch {
	case p.off:
		return api.ErrPower
	case p.open != nil:
		return api.ErrState
	}
	return api.OK
}

func (p *purse) ask(name string, amount uint64) api.Errno {
	errno := p.first()
	switch {
	case errno != api.OK:
		return errno
	case !isNamed(name):
		return api.ErrForm
	case amount == 0:
		return api.ErrRange
	}
	return p.asking(wish{kind: api.Issue, name: name}, 0, callRecord(len(name), amount, nil), split(amount)...)
}

func (p *purse) receive(coins []coin) api.Errno {
	if errno := p.first(); errno != api.OK {
		return errno
	}
	return p.asking(wish{kind: api.Swap, in: coins}, 0, callRecord(textBytes(coins), 0, nil), split(worth(coins))...)
}

// least is how many coins make at least an amount.
func (p *purse) least(amount uint64) int {
	n := 1
	for worth(p.coins[:n]) < amount {
		n++
	}
	return n
}

func (p *purse) pay(name string, amount uint64) api.Errno {
	errno := p.first()
	switch {
	case errno != api.OK:
		return errno
	case !isNamed(name):
		return api.ErrForm
	case amount < 1 || amount > 1<<40:
		return api.ErrRange
	case amount > worth(p.coins):
		return api.ErrFunds
	}
	in := p.coins[:p.least(amount)]
	return p.asking(wish{kind: api.Pay, name: name, amount: amount, in: in}, len(in), callRecord(len(name), amount, nil), split(worth(in)-amount)...)
}

func (p *purse) change(amount uint64) api.Errno {
	errno := p.first()
	switch {
	case errno != api.OK:
		return errno
	case amount == 0:
		return api.ErrRange
	case amount > worth(p.coins):
		return api.ErrFunds
	}
	in := p.coins[:p.least(amount)]
	return p.asking(wish{kind: api.Swap, in: in}, len(in), callRecord(0, amount, nil), append(split(amount), split(worth(in)-amount)...)...)
}

func (p *purse) send(amount uint64) ([]coin, api.Errno) {
	switch {
	case p.off:
		return nil, api.ErrPower
	case amount == 0:
		return nil, api.ErrRange
	case amount > worth(p.coins):
		return nil, api.ErrFunds
	}
	var taken, rest []coin
	falling := slices.Clone(p.coins)
	slices.SortStableFunc(falling, func(a, b coin) int { return -cmp.Compare(a.amount, b.amount) })
	missing := amount
	for _, c := range falling {
		if c.amount <= missing {
			taken, missing = append(taken, c), missing-c.amount
		}
	}
	switch {
	case missing > 0:
		return nil, api.ErrNone
	case len(taken) > 64:
		return nil, api.ErrLong
	}
	if errno := p.add(callRecord(0, amount, nil)); errno != api.OK {
		return nil, errno
	}
	for _, c := range p.coins {
		if !slices.Contains(taken, c) {
			rest = append(rest, c)
		}
	}
	p.coins = rest
	return taken, api.OK
}

// answer takes what the mint has signed, which is right.
func (p *purse) answer() api.Errno {
	if p.off {
		return api.ErrPower
	}
	errno := p.add(callRecord(0, 0, p.open.out))
	if errno == api.OK {
		p.coins, p.open = append(p.coins, p.open.out...), nil
	}
	return errno
}

func (p *purse) refused() api.Errno {
	if p.off {
		return api.ErrPower
	}
	errno := p.add(callRecord(0, 0, nil))
	if errno == api.OK {
		p.coins, p.open = append(p.coins, p.back...), nil
	}
	return errno
}
