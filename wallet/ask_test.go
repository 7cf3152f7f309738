package wallet_test

import (
	"bytes"
	"encoding/hex"
	"math"
	"testing"

	"mintvault/api"
	"mintvault/blind"
	"mintvault/keys"
	"mintvault/wallet"
)

func TestAsk(t *testing.T) {
	p := begun(t, room)
	p.ask("order", 11, api.OK)
	p.wants(nil, of(1, 2, 8))
	if r, _ := p.w.Asked(); r.Kind != api.Issue || r.Name != "order" || r.Amount != 0 {
		t.Errorf("V2: Ask: %+v", r)
	}
	p.has()
	p.served()
	p.has(1, 2, 8)
	p.ask("order", 3, api.OK)
	p.has(1, 2, 8)
	p.served()
	p.has(1, 2, 8, 1, 2)
}

// tooLong are amounts of which Split says ErrLong, short ones that are nearly so.
func tooLong() []uint64 {
	return []uint64{64*largest + 1, 65 * largest, 46*largest + largest - 1, 63*largest + largest - 1, 1 << 40, 1<<40 + 1, 1 << 63, math.MaxUint64}
}

func short() []uint64 {
	return []uint64{1, 2, 3, largest - 1, largest, largest + 1, 45*largest + largest - 1, 63*largest + 1, 64 * largest}
}

func TestAskAtItsEdges(t *testing.T) {
	p := begun(t, room)
	for _, n := range []int{0, 65, 66, 1000} {
		p.ask(nameOf(n), 1, api.ErrForm)
	}
	p.ask("a", 0, api.ErrRange)
	for _, amount := range tooLong() {
		p.ask("a", amount, api.ErrLong)
	}
	for _, n := range []int{1, 2, 63, 64} {
		p.ask(nameOf(n), 1, api.OK)
		p.refused(api.OK)
	}
	for _, amount := range short() {
		p.ask("a", amount, api.OK)
		p.refused(api.OK)
	}
	p.ask("a", 45*largest+largest-1, api.OK)
	p.served()
	p.again(room)
}

// Of an output: what the document says, by the calls that it names.
func TestOutputs(t *testing.T) {
	s := bytes.Repeat([]byte{7}, 32)
	w, errno := wallet.New(s, room, set())
	if errno != api.OK {
		t.Fatalf("V1: New: %d", errno)
	}
	w.Ask("a", 3)
	w.Refused()
	r, _ := w.Ask("a", 1)
	secret := ok(keys.Derive(s, "token", []uint32{2}))
	k := ok(keys.Scalar(s, "blind", []uint32{2}))
	if !bytes.Equal(r.Out[0].Point, ok(blind.Blind(secret, k))) {
		t.Errorf("V2: output 2: %x", r.Out)
	}
	l := answerTo(r)
	if w.Answer(l) != api.OK || !bytes.Equal(w.Tokens()[0].Secret, secret) || !bytes.Equal(w.Tokens()[0].Sign, ok(blind.Unblind(l[0].Sign, k, set().Public[0]))) {
		t.Errorf("V4: the token of output 2: %+v", w.Tokens())
	}
	// The document's example of Derive is output 0 of this wallet.
	v, _ := wallet.New(s, room, set())
	r, _ = v.Ask("a", 1)
	v.Answer(answerTo(r))
	if got := hex.EncodeToString(v.Tokens()[0].Secret[:8]); got != "562cd746b4ee08e9" {
		t.Errorf("V4: the secret of output 0: %s", got)
	}
}

// Outputs are used in order, each once: what is answered with an errno uses none, what is refused by the mint has used its own.
func TestOutputsAreUsedOnce(t *testing.T) {
	p := with(t, 7)
	first := func(n int) {
		t.Helper()
		r, _ := p.w.Asked()
		for i, h := range r.Out {
			if !bytes.Equal(h.Point, hiddenOf(n+i, h.Amount).Point) {
				t.Errorf("V2: output %d of a request that has those from %d on is another", i, n)
			}
		}
	}
	p.ask("a", 64*largest+1, api.ErrLong)
	p.ask("", 3, api.ErrForm)
	p.pay("a", 8, api.ErrFunds)
	p.change(0, api.ErrRange)
	p.receive("mv1", api.ErrForm)
	p.ask("a", 6, api.OK)
	first(3)
	p.pay("a", 1, api.ErrState)
	p.answer(nil, api.ErrProof)
	p.refused(api.OK)
	p.pay("a", 2, api.OK)
	first(5)
	p.refused(api.OK)
	p.change(5, api.OK)
	first(6)
	p.served()
	p.send(5, api.OK)
	p.receive(textOf(foreign("o", 4, 2, 8)), api.OK)
	first(8)
	p = p.again(room)
	first(8)
	p.refused(api.OK)
	p.ask("a", 1, api.OK)
	first(11)
}
