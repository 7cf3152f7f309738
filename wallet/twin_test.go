package wallet_test

import (
	"slices"
	"testing"

	"mintvault/api"
	"mintvault/wallet"
)

// twin is a wallet, and the same one as the document tells of it: each call is done with both, and held.
type twin struct {
	*testing.T
	w    *wallet.Wallet
	d    *told
	last api.Errno // what the last call was answered with
}

// whatever stands for the errno that the document tells: the other wallet knows it.
const whatever = api.Errno(-1)

func (p *twin) agrees(errno, told, wanted api.Errno) bool {
	p.last = told
	return errno == told && (wanted == told || wanted == whatever)
}

func begun(t *testing.T, limit int) *twin {
	t.Helper()
	w, errno := wallet.New(seed(), limit, set())
	if errno != api.OK || w == nil {
		t.Fatalf("V1: New with room for %d: %d", limit, errno)
	}
	return &twin{T: t, w: w, d: &told{limit: limit}}
}

// with has tokens of these amounts, each asked for by itself.
func with(t *testing.T, amounts ...uint64) *twin {
	t.Helper()
	p := begun(t, room)
	for _, amount := range amounts {
		p.ask("order", amount, api.OK)
		p.served()
	}
	return p
}

// again is one that goes on with the same disk, in as much room; the first one stays as it is.
func (p *twin) again(limit int) *twin {
	p.Helper()
	d := *p.d
	d.limit, d.records, d.tokens = limit, slices.Clip(d.records), slices.Clip(d.tokens)
	d.reopen()
	q := &twin{T: p.T, w: opened(p.T, p.w.Disk(), limit), d: &d}
	q.holds("opened again")
	return q
}

func (p *twin) holds(what string) {
	p.Helper()
	p.d.holds(p.T, what, p.w)
	if p.Failed() {
		p.FailNow()
	}
}

func (p *twin) arm(n int) {
	p.w.Arm(n)
	p.d.arm(n)
}

// requests holds what a call answers that asks for something: the request, or an error alone (E4).
func (p *twin) requests(what string, got api.Request, errno api.Errno, want api.Request, told, wanted api.Errno) {
	p.Helper()
	if !p.agrees(errno, told, wanted) || !sameRequest(got, want) {
		p.Fatalf("V2: %s: %+v, %d, want %+v, %d (told: %d)", what, got, errno, want, wanted, told)
	}
	p.holds(what)
}

func (p *twin) ask(name string, amount uint64, wanted api.Errno) {
	p.Helper()
	got, errno := p.w.Ask(name, amount)
	want, told := p.d.ask(name, amount)
	p.requests("Ask", got, errno, want, told, wanted)
}

func (p *twin) receive(text string, wanted api.Errno) {
	p.Helper()
	got, errno := p.w.Receive(text)
	want, told := p.d.receive(text)
	p.requests("Receive", got, errno, want, told, wanted)
}

func (p *twin) pay(name string, amount uint64, wanted api.Errno) {
	p.Helper()
	got, errno := p.w.Pay(name, amount)
	want, told := p.d.pay(name, amount)
	p.requests("Pay", got, errno, want, told, wanted)
}

func (p *twin) change(amount uint64, wanted api.Errno) {
	p.Helper()
	got, errno := p.w.Change(amount)
	want, told := p.d.change(amount)
	p.requests("Change", got, errno, want, told, wanted)
}

func (p *twin) send(amount uint64, wanted api.Errno) string {
	p.Helper()
	got, errno := p.w.Send(amount)
	want, told := p.d.send(amount)
	if !p.agrees(errno, told, wanted) || got != want {
		p.Fatalf("V3: Send of %d: %.100q, %d, want %.100q, %d (told: %d)", amount, got, errno, want, wanted, told)
	}
	p.holds("Send")
	return got
}

func (p *twin) answer(l []api.Signed, wanted api.Errno) {
	p.Helper()
	errno, told := p.w.Answer(l), p.d.answer(l)
	if !p.agrees(errno, told, wanted) {
		p.Fatalf("V4: Answer with %d: %d, want %d (told: %d)", len(l), errno, wanted, told)
	}
	p.holds("Answer")
}

func (p *twin) refused(wanted api.Errno) {
	p.Helper()
	errno, told := p.w.Refused(), p.d.refused()
	if !p.agrees(errno, told, wanted) {
		p.Fatalf("V4: Refused: %d, want %d (told: %d)", errno, wanted, told)
	}
	p.holds("Refused")
}

// served has the answer to what is open.
func (p *twin) served() {
	p.Helper()
	p.answer(answerTo(*p.d.open), api.OK)
}

// has holds the amounts of the tokens, as they are written in a test.
func (p *twin) has(amounts ...uint64) {
	p.Helper()
	var got []uint64
	sum := uint64(0)
	for _, t := range p.w.Tokens() {
		got = append(got, t.Amount)
		sum += t.Amount
	}
	if !slices.Equal(got, amounts) || p.w.Balance() != sum {
		p.Errorf("V5: tokens of %v, a balance of %d, want %v", got, p.w.Balance(), amounts)
	}
}

// wants holds the amounts of what is asked for, and of what is given for it.
func (p *twin) wants(in, out []uint64) {
	p.Helper()
	r, _ := p.w.Asked()
	var gotIn, gotOut []uint64
	for _, t := range r.In {
		gotIn = append(gotIn, t.Amount)
	}
	for _, h := range r.Out {
		gotOut = append(gotOut, h.Amount)
	}
	if !slices.Equal(gotIn, in) || !slices.Equal(gotOut, out) {
		p.Errorf("V2: asked with %v for %v, want %v, %v", gotIn, gotOut, in, out)
	}
}

func of(amounts ...uint64) []uint64 { return amounts }
