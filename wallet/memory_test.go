package wallet_test

import (
	"bytes"
	"reflect"
	"slices"
	"testing"

	"mintvault/api"
	"mintvault/wallet"
)

// region is the memory behind a list, spare room included.
type region struct {
	from, to uintptr
}

// regions are those of all lists that can be reached from a value, those that are kept inside too.
func regions(v reflect.Value) []region {
	var all []region
	switch v.Kind() {
	case reflect.Slice:
		if size := uintptr(v.Cap()) * v.Type().Elem().Size(); size > 0 {
			all = append(all, region{v.Pointer(), v.Pointer() + size})
		}
		for i := range v.Len() {
			all = append(all, regions(v.Index(i))...)
		}
	case reflect.Struct:
		for i := range v.NumField() {
			all = append(all, regions(v.Field(i))...)
		}
	case reflect.Pointer, reflect.Interface:
		if !v.IsNil() {
			all = append(all, regions(v.Elem())...)
		}
	}
	return all
}

// apart holds that no two lists of an answer share memory, and that none does with another thing.
func apart(t *testing.T, what string, answer any, others ...any) {
	t.Helper()
	mine := regions(reflect.ValueOf(answer))
	theirs := mine
	for _, other := range others {
		theirs = append(theirs, regions(reflect.ValueOf(other))...)
	}
	for i, a := range mine {
		for _, b := range theirs[i+1:] {
			if a.from < b.to && b.from < a.to {
				t.Errorf("E2: %s: lists share memory", what)
				return
			}
		}
	}
}

// notKept holds that a wallet has nothing of what was handed in.
func notKept(t *testing.T, what string, w *wallet.Wallet, given any) {
	t.Helper()
	for _, a := range regions(reflect.ValueOf(given)) {
		for _, b := range regions(reflect.ValueOf(w)) {
			if a.from < b.to && b.from < a.to {
				t.Errorf("E2: %s: it is kept", what)
				return
			}
		}
	}
}

// yard is room in the middle of which lists lie, so that whatever is written beside them or over them shows.
type yard struct {
	room, before []byte
	used         int
}

func newYard() *yard { return &yard{room: some(60000, "yard")} }

func (y *yard) put(b []byte) []byte {
	from := y.used + 10
	y.used = from + copy(y.room[from:], b)
	return y.room[from:y.used]
}

// keys and list lie in it; what is around them in their own lists is held, too.
func (y *yard) keys(k api.Keyset) (laid api.Keyset, around [][]byte) {
	around = slices.Repeat([][]byte{[]byte("around")}, 40)
	for i, b := range k.Public {
		around[10+i] = y.put(b)
	}
	return api.Keyset{Name: y.put(k.Name), Public: around[10 : 10+len(k.Public)]}, around
}

func (y *yard) list(l []api.Signed) (laid []api.Signed, around []api.Signed) {
	around = slices.Repeat([]api.Signed{{Amount: 77, Point: []byte("around")}}, len(l)+20)
	for i, s := range l {
		around[10+i] = api.Signed{Amount: s.Amount, Point: y.put(s.Point), Sign: y.put(s.Sign), Proof: y.put(s.Proof)}
	}
	return around[10 : 10+len(l)], around
}

func (y *yard) close() { y.before = bytes.Clone(y.room) }

func (y *yard) check(t *testing.T, what string) {
	t.Helper()
	if !bytes.Equal(y.room, y.before) {
		t.Errorf("E2: %s: what was handed in, or what lies around it, has changed", what)
	}
}

// spoil writes over all that was handed in.
func (y *yard) spoil() {
	for i := range y.room {
		y.room[i] ^= 0xa5
	}
}

func TestMemoryOfNew(t *testing.T) {
	p := history(t)
	for _, disk := range [][]byte{nil, p.d.disk, append(bytes.Clone(p.d.disk), 1, 2, 3)} {
		y := newYard()
		s, d := y.put(seed()), y.put(disk)
		k, around := y.keys(set())
		y.close()
		before := slices.Clone(around)
		w, errno := wallet.Open(s, room, k, d)
		if len(disk) == 0 {
			w, errno = wallet.New(s, room, k)
		}
		if errno != api.OK {
			t.Fatalf("V1: %d", errno)
		}
		y.check(t, "Open")
		if !reflect.DeepEqual(around, before) {
			t.Error("E2: Open: the list of keys has changed")
		}
		notKept(t, "the seed, the keys or the disk", w, []any{s, k, d})
		y.spoil()
		clear(around)
		q := &twin{T: t, w: w, d: &told{limit: room}}
		if len(disk) > 0 {
			q.d = p.again(room).d
			q.served()
		}
		q.holds("E2: what was handed in is written over")
		q.ask("b", 5, api.OK)
		q.served()
		q.receive(textOf(foreign("y", 4)), api.OK)
		q.again(room)
	}
	for _, k := range noSets() {
		y := newYard()
		k.Name = y.put(k.Name)
		y.close()
		refusesDisk(t, "V1", y.room[:32], room, k, y.room[32:40], api.ErrForm)
		y.check(t, "Open that is refused")
	}
}

func TestMemoryOfAnswer(t *testing.T) {
	for _, p := range asked(t) {
		lists := append(wrongLists(*p.d.open), answerTo(*p.d.open))
		for i := (len(lists) - 1) % 5; i < len(lists); i += 5 {
			l := lists[i]
			y := newYard()
			laid, around := y.list(l)
			y.close()
			before := slices.Clone(around)
			p.answer(laid, whatever)
			y.check(t, "Answer")
			if !reflect.DeepEqual(around, before) {
				t.Error("E2: Answer: the list has changed")
			}
			notKept(t, "what the mint has answered", p.w, laid)
			y.spoil()
			clear(around)
			p.holds("E2: what was handed in is written over")
		}
		if p.d.open != nil {
			t.Error("V4: it was not answered")
		}
		p.again(room)
	}
}

// What is answered is new memory each time.
func TestMemoryOfAnswers(t *testing.T) {
	p := with(t, 7)
	calls := []func() (api.Request, api.Errno){
		func() (api.Request, api.Errno) { return p.w.Ask("a", 7) },
		func() (api.Request, api.Errno) { return p.w.Receive(textOf(foreign("z", 2, 1, 4))) },
		func() (api.Request, api.Errno) { return p.w.Pay("a", 3) },
		func() (api.Request, api.Errno) { return p.w.Change(4) },
	}
	for i, call := range calls {
		r, errno := call()
		again, _ := p.w.Asked()
		tokens := p.w.Tokens()
		if errno != api.OK {
			t.Fatalf("V2: call %d: %d", i, errno)
		}
		apart(t, "a request", r, again, tokens, p.w)
		apart(t, "Asked", again, tokens, p.w)
		apart(t, "Tokens", tokens, p.w.Tokens(), p.w)
		want, _ := p.w.Asked()
		disk := p.w.Disk()
		spoilRequest(r)
		spoilTokens(tokens)
		apart(t, "Disk", disk, p.w)
		clear(p.w.Disk())
		if got, _ := p.w.Asked(); !sameRequest(got, want) || !bytes.Equal(p.w.Disk(), disk) {
			t.Errorf("E2: call %d: what was answered is written over, and what is kept is, too", i)
		}
		l := answerTo(want)
		if errno := p.w.Answer(l); errno != api.OK {
			t.Errorf("E2: call %d: what was answered is written over, and Answer says %d", i, errno)
		}
		for _, token := range p.w.Tokens() {
			if !sameToken(token, tokenWith(token.Amount, token.Secret)) {
				t.Errorf("E2: call %d: a token is none: %+v", i, token)
			}
		}
		spoilTokens(p.w.Tokens())
		o := opened(t, p.w.Disk(), room)
		if !slices.EqualFunc(p.w.Tokens(), o.Tokens(), sameToken) {
			t.Errorf("E2: call %d: Open has other tokens", i)
		}
	}
}

func spoilTokens(l []api.Token) {
	for _, t := range l {
		clear(t.Keys)
		clear(t.Secret)
		clear(t.Sign)
	}
	clear(l[:cap(l)])
}

func spoilRequest(r api.Request) {
	spoilTokens(r.In)
	for _, h := range r.Out {
		clear(h.Point)
	}
	clear(r.Out[:cap(r.Out)])
}

// Wallets do not know of one another (E1).
func TestWalletsStandAlone(t *testing.T) {
	p := with(t, 7)
	q, r := p.again(room), p.again(room)
	q.send(4, api.OK)
	q.change(3, api.OK)
	q.arm(0)
	q.refused(api.ErrPower)
	r.pay("a", 2, api.OK)
	r.served()
	p.holds("E1: others have done something")
	p.ask("a", 3, api.OK)
	p.served()
	q.holds("E1: others have done something")
	r.holds("E1: others have done something")
}
