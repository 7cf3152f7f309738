package world

import (
	"fmt"
	"slices"

	"mintvault/api"
)

// told is the world as the document tells of it, without a curve: a token is told apart by whose output it is, and of what lies on a disk only the bytes are counted.
type told struct {
	bank     *bank
	purses   []*purse
	requests []mail
	answers  []mail
	texts    []parcel
	seen     map[string]int // what was come upon
}

// mail is a request under way, or, with what the mint has said of it, an answer.
type mail struct {
	who   int
	wish  wish
	errno api.Errno
}

type parcel struct {
	to    int
	coins []coin
}

func toldOf(wallets int) *told {
	d := &told{bank: newBank(), seen: map[string]int{}}
	for who := range wallets {
		d.purses = append(d.purses, &purse{who: who, paper: paper{limit: 1048576}})
	}
	return d
}

func (d *told) isWallet(n int) bool { return 0 <= n && n < len(d.purses) }

// isNothing tells of acts that are nothing, whatever else there is.
func (d *told) isNothing(a api.Act) bool {
	switch a.Do {
	case api.ActFund, api.ActMint, api.ActWallet, api.ActMintOpen, api.ActLose, api.ActLoseAnswer, api.ActSettle:
		return a.N < 0
	case api.ActAsk, api.ActPay, api.ActChange, api.ActReceive, api.ActAgain, api.ActOpen:
		return a.N < 0 || !d.isWallet(a.Who)
	case api.ActSend:
		return !d.isWallet(a.Who) || !d.isWallet(a.N)
	case api.ActPower:
		return !d.isWallet(a.Who)
	case api.ActMintPower:
		return false
	}
	return true
}

func (d *told) act(a api.Act) {
	if d.isNothing(a) {
		d.seen["nothing"]++
		return
	}
	var p *purse
	if d.isWallet(a.Who) {
		p = d.purses[a.Who]
	}
	switch a.Do {
	case api.ActFund:
		d.note("fund", d.bank.fund(a.Name, a.Amount))
	case api.ActAsk:
		d.asks("ask", p, p.ask(a.Name, a.Amount))
	case api.ActPay:
		d.asks("pay", p, p.pay(a.Name, a.Amount))
	case api.ActChange:
		d.asks("change", p, p.change(a.Amount))
	case api.ActSend:
		coins, errno := p.send(a.Amount)
		d.note("send", errno)
		if errno == api.OK {
			d.texts = append(d.texts, parcel{a.N, coins})
		}
	case api.ActReceive:
		d.receive(p, a.Keep)
	case api.ActAgain:
		if p.open != nil {
			d.requests = append(d.requests, mail{who: p.who, wish: *p.open})
		}
	case api.ActMintPower:
		d.bank.arm(a.N)
	case api.ActPower:
		p.arm(a.N)
	case api.ActMintOpen:
		d.bank.reopen()
	case api.ActOpen:
		p.reopen()
	case api.ActSettle:
		d.settle()
	default:
		d.message(a)
	}
}

// message is an act that is about a request or an answer under way.
func (d *told) message(a api.Act) {
	l := &d.requests
	if a.Do == api.ActWallet || a.Do == api.ActLoseAnswer {
		l = &d.answers
	}
	if len(*l) == 0 {
		d.seen["no entry"]++
		return
	}
	i := a.N % len(*l)
	x := (*l)[i]
	if !a.Keep || a.Do == api.ActLose || a.Do == api.ActLoseAnswer {
		*l = append(slices.Clone((*l)[:i]), (*l)[i+1:]...)
	}
	switch a.Do {
	case api.ActMint:
		x.errno = d.bank.do(x.wish)
		d.note("mint", x.errno)
		d.answers = append(d.answers, x)
	case api.ActWallet:
		d.hear(x)
	}
}

func (d *told) note(what string, errno api.Errno) { d.seen[fmt.Sprint(what, " ", int(errno))]++ }

func (d *told) asks(what string, p *purse, errno api.Errno) {
	d.note(what, errno)
	if errno == api.OK {
		d.requests = append(d.requests, mail{who: p.who, wish: *p.open})
	}
}

func (d *told) receive(p *purse, keep bool) {
	for i, t := range d.texts {
		if t.to != p.who {
			continue
		}
		errno := p.receive(t.coins)
		d.asks("receive", p, errno)
		if !keep && errno != api.ErrState && errno != api.ErrPower {
			d.texts = append(slices.Clone(d.texts[:i]), d.texts[i+1:]...)
		}
		return
	}
	d.seen["no text"]++
}

// hear is what a wallet does with an answer.
func (d *told) hear(x mail) {
	p := d.purses[x.who]
	if p.open == nil || p.open.String() != x.wish.String() {
		d.seen["another one is open"]++
		return
	}
	d.note("hear", x.errno)
	switch x.errno {
	case api.ErrPower, api.ErrFull, api.ErrQuote:
	case api.OK:
		d.note("answer", p.answer())
	default:
		d.note("refused", p.refused())
	}
}

func (d *told) settle() {
	d.bank.reopen()
	for _, p := range d.purses {
		p.reopen()
	}
	for _, p := range d.purses {
		d.serve(p)
	}
	for _, t := range d.texts {
		if d.purses[t.to].receive(t.coins) == api.OK {
			d.serve(d.purses[t.to])
		}
	}
	d.texts, d.requests, d.answers = nil, nil, nil
}

func (d *told) serve(p *purse) {
	if p.open == nil {
		return
	}
	if _, there := d.bank.orders[p.open.name]; p.open.kind == api.Issue && !there {
		d.note("serve", d.bank.fund(p.open.name, worth(p.open.out)))
	}
	d.hear(mail{p.who, *p.open, d.bank.do(*p.open)})
}

// isFull tells whether a journal was full at any time.
func (d *told) isFull() bool {
	full := d.bank.full
	for _, p := range d.purses {
		full = full || p.full
	}
	return full
}

func (d *told) scene() api.Scene {
	s := api.Scene{Book: d.bank.book, Requests: len(d.requests), Answers: len(d.answers), Texts: len(d.texts)}
	for _, p := range d.purses {
		s.Balances = append(s.Balances, worth(p.coins))
		s.Open = append(s.Open, p.open != nil)
	}
	for _, t := range d.texts {
		s.Worth += worth(t.coins)
	}
	return s
}
