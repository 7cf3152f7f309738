package wallet_test

import (
	"bytes"
	"slices"
	"testing"

	"mintvault/api"
	"mintvault/blind"
	"mintvault/group"
	"mintvault/keys"
	"mintvault/num"
	"mintvault/sponge"
	"mintvault/wallet"
)

// asked is one of each kind of request that is open, with three outputs or more (or none).
func asked(t *testing.T) []*twin {
	t.Helper()
	ask, receive, pay, change, exact := begun(t, room), with(t, 1), with(t, 16, 1), with(t, 16), with(t, 4)
	ask.ask("a", 11, api.OK)
	receive.receive(textOf(foreign("q", 8, 4, 2)), api.OK)
	pay.pay("a", 5, api.OK)
	change.change(5, api.OK)
	exact.pay("a", 4, api.OK)
	return []*twin{ask, receive, pay, change, exact}
}

func TestAnswer(t *testing.T) {
	for i, p := range asked(t) {
		p.served()
		p.has([][]uint64{{1, 2, 8}, {1, 2, 4, 8}, {1, 1, 2, 8}, {1, 4, 1, 2, 8}, nil}[i]...)
		for _, token := range p.w.Tokens() {
			if !blind.Valid(keyOf(token.Amount), token.Secret, token.Sign) || !bytes.Equal(token.Keys, set().Name) {
				t.Errorf("V4: a token is none: %+v", token)
			}
		}
		p.again(room)
	}
}

func TestRefused(t *testing.T) {
	for i, p := range asked(t) {
		p.refused(api.OK)
		p.has([][]uint64{nil, {1}, {1, 16}, {16}, {4}}[i]...)
		p.again(room)
	}
}

// Once it is answered or refused, neither can be said of it.
func TestNothingIsOpen(t *testing.T) {
	p := begun(t, room)
	closed := func(l []api.Signed) {
		t.Helper()
		for _, l := range [][]api.Signed{nil, {}, l, {{}}, make([]api.Signed, 65)} {
			p.answer(l, api.ErrState)
		}
		p.refused(api.ErrState)
	}
	closed(nil)
	for _, p = range asked(t) {
		q, l := p.again(room), answerTo(*p.d.open)
		p.served()
		closed(l)
		p = q
		p.refused(api.OK)
		closed(l)
		p = p.again(room)
		closed(l)
	}
}

// While a request is open no other one is asked for.
func TestARequestIsOpen(t *testing.T) {
	for _, p := range asked(t) {
		for range 2 {
			p.ask("b", 1, api.ErrState)
			p.receive(textOf(foreign("z", 1)), api.ErrState)
			p.pay("b", 1, api.ErrState)
			p.change(1, api.ErrState)
			p = p.again(room)
		}
	}
}

// wrongLists are lists that are not the answer: each is wrong in one thing.
func wrongLists(r api.Request) [][]api.Signed {
	var lists [][]api.Signed
	add := func(change func(l []api.Signed) []api.Signed) { lists = append(lists, change(answerTo(r))) }
	add(func(l []api.Signed) []api.Signed { return append(l, signedOf(hiddenOf(50, 1))) })
	for i := range r.Out {
		add(func(l []api.Signed) []api.Signed { return slices.Delete(l, i, i+1) })
		add(func(l []api.Signed) []api.Signed { return slices.Insert(l, i, l[i]) })
		add(func(l []api.Signed) []api.Signed { l[i] = api.Signed{}; return l })
		for j := range i {
			add(func(l []api.Signed) []api.Signed { l[i], l[j] = l[j], l[i]; return l })
			add(func(l []api.Signed) []api.Signed { l[i] = l[j]; return l })
			add(func(l []api.Signed) []api.Signed { l[i].Point = l[j].Point; return l })
			add(func(l []api.Signed) []api.Signed { l[i].Sign = l[j].Sign; return l })
			add(func(l []api.Signed) []api.Signed { l[i].Proof = l[j].Proof; return l })
		}
		for _, amount := range append(noDenominations(), r.Out[i].Amount*2, r.Out[i].Amount+1<<32) {
			add(func(l []api.Signed) []api.Signed { l[i].Amount = amount; return l })
		}
		other := hiddenOf(50, r.Out[i].Amount)
		add(func(l []api.Signed) []api.Signed { l[i] = signedOf(other); return l })
		add(func(l []api.Signed) []api.Signed {
			l[i] = signedOf(api.Hidden{Amount: r.Out[i].Amount * 2, Point: r.Out[i].Point})
			l[i].Amount /= 2
			return l
		})
		for _, b := range append(noPoints(), other.Point, group.Base()) {
			add(func(l []api.Signed) []api.Signed { l[i].Point = b; return l })
			add(func(l []api.Signed) []api.Signed { l[i].Sign = b; return l })
		}
		for _, b := range [][]byte{nil, {}, make([]byte, 64), make([]byte, 63), bytes.Repeat([]byte{255}, 64), signedOf(other).Proof} {
			add(func(l []api.Signed) []api.Signed { l[i].Proof = b; return l })
		}
		add(func(l []api.Signed) []api.Signed { l[i].Proof = append(l[i].Proof, 0); return l })
		add(func(l []api.Signed) []api.Signed { l[i].Proof = l[i].Proof[:63]; return l })
	}
	return lists
}

func TestWrongAnswers(t *testing.T) {
	for _, p := range asked(t) {
		p.arm(0) // what is refused needs no power
		for _, l := range wrongLists(*p.d.open) {
			p.answer(l, api.ErrProof)
		}
		p.arm(-1)
		p.served()
	}
	p := begun(t, room)
	p.ask("a", 64*largest, api.OK)
	l := answerTo(*p.d.open)
	for _, n := range []int{0, 1, 63} {
		p.answer(l[:n], api.ErrProof)
	}
	p.answer(append(l, l[0]), api.ErrProof)
	l[63].Proof[63] ^= 1
	p.answer(l, api.ErrProof)
	p.served()
}

// Each bit of Point, Sign and Proof counts.
func TestAnswersWithABitTurned(t *testing.T) {
	p := begun(t, room)
	p.ask("a", 1, api.OK)
	turn := func(part func(*api.Signed) []byte) {
		for bit := range len(part(&answerTo(*p.d.open)[0])) * 8 {
			l := answerTo(*p.d.open)
			part(&l[0])[bit/8] ^= 1 << (bit % 8)
			p.answer(l, api.ErrProof)
		}
	}
	turn(func(s *api.Signed) []byte { return s.Point })
	turn(func(s *api.Signed) []byte { return s.Sign })
	turn(func(s *api.Signed) []byte { return s.Proof })
	p.served()
}

// proofWith is a proof as ProveSame makes it, with another chance.
func proofWith(chance, key, base []byte) []byte {
	l := sponge.NewLog("same")
	l.Say("base", base)
	l.Say("a", ok(group.Times(key, group.Base())))
	l.Say("b", ok(group.Times(key, base)))
	l.Say("first", ok(group.Times(chance, group.Base())))
	l.Say("second", ok(group.Times(chance, base)))
	c := ok(num.Reduce(api.Order, ok(l.Ask("challenge", 64))))
	return append(c, ok(num.Add(api.Order, chance, ok(num.Mul(api.Order, c, key))))...)
}

// A proof that is right is taken, whatever chance was in it.
func TestAnswerWithAnotherProof(t *testing.T) {
	w := opened(t, nil, room)
	r, _ := w.Ask("a", 2)
	l := answerTo(r)
	l[0].Proof = proofWith(ok(keys.Scalar(seed(), "chance", nil)), keyOf(2), r.Out[0].Point)
	if bytes.Equal(l[0].Proof, signedOf(r.Out[0]).Proof) {
		t.Fatal("it is the same proof")
	}
	if errno := w.Answer(l); errno != api.OK || w.Balance() != 2 || !sameToken(w.Tokens()[0], tokenOf(0, 2)) {
		t.Errorf("V4: Answer with another proof that is right: %d", errno)
	}
	if !bytes.Equal(w.Disk(), diskOf(callOf(1, "a", 2), callOf(6, "", 0, l...))) {
		t.Error("V4: it is not recorded as it is")
	}
	if o := opened(t, w.Disk(), room); o.Balance() != 2 {
		t.Errorf("V1: Open of it: a balance of %d", o.Balance())
	}
}

// The keys are those that were handed in, by their place, and so is their name, whatever it is.
func TestOtherKeys(t *testing.T) {
	k := set()
	k.Name = some(8, "another name")
	k.Public[0], k.Public[1] = k.Public[1], k.Public[0]
	w, errno := wallet.New(seed(), room, k)
	if errno != api.OK {
		t.Fatalf("V1: New: %d", errno)
	}
	r, _ := w.Ask("a", 1)
	if errno := w.Answer(answerTo(r)); errno != api.ErrProof {
		t.Errorf("V4: Answer by another key: %d", errno)
	}
	l := []api.Signed{signedOf(api.Hidden{Amount: 2, Point: r.Out[0].Point})}
	l[0].Amount = 1
	if errno := w.Answer(l); errno != api.OK {
		t.Errorf("V4: Answer by the key at that place: %d", errno)
	}
	want := tokenOf(0, 2)
	want.Amount, want.Keys = 1, k.Name
	if got := w.Tokens(); len(got) != 1 || !sameToken(got[0], want) {
		t.Errorf("V4: the token: %+v, want %+v", got, want)
	}
	if _, errno := w.Receive(textOf(foreign("k", 1))); errno != api.ErrKeys {
		t.Errorf("V2: Receive of tokens of other keys: %d", errno)
	}
	if _, errno := w.Receive(textOf([]api.Token{want})); errno != api.OK {
		t.Errorf("V2: Receive of tokens of these keys: %d", errno)
	}
	if _, errno := wallet.Open(seed(), room, set(), w.Disk()); errno != api.ErrForm {
		t.Errorf("V1: Open with the others: %d", errno)
	}
	if _, errno := wallet.Open(seed(), room, k, w.Disk()); errno != api.OK {
		t.Errorf("V1: Open with the same: %d", errno)
	}
}
