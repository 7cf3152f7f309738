package mint_test

import (
	"bytes"
	"slices"
	"testing"

	"mintvault/api"
	"mintvault/blind"
	"mintvault/group"
	"mintvault/mint"
)

// One of each kind, and how all stands behind each.
func TestDo(t *testing.T) {
	m := begun(t, room)
	want := stand{}
	want.holds(t, "M1: a new mint", m)
	funds(t, "M2", m, "order", 7, api.OK)
	want.disk = diskOf(moneyOf("order", 7))
	want.book.Funded = 7
	want.holds(t, "M2: an order", m)
	records := [][]byte{moneyOf("order", 7)}
	for i, r := range []api.Request{issue(), swap(), pay()} {
		does(t, "M3: ordinary", m, r, api.OK)
		records, want.done = append(records, recordOf(r)), append(want.done, r)
		want.disk = diskOf(records...)
		want.book = []api.Book{
			{Funded: 7, Used: 7, Issued: 7, Count: 1},
			{Funded: 7, Used: 7, Issued: 14, Spent: 7, Count: 2},
			{Funded: 7, Used: 7, Issued: 20, Spent: 16, Paid: 3, Count: 3},
		}[i]
		want.holds(t, "M3: ordinary", m)
	}
	want.holds(t, "M1: behind Open", opened(t, m.Disk(), room))
}

// Whoever asked gets tokens out of the answer that the mint takes back.
func TestRoundTrip(t *testing.T) {
	m := begun(t, room)
	funds(t, "M2", m, "a", 3, api.OK)
	r := some(32, "r")
	out := []api.Hidden{{Amount: 1, Point: ok(blind.Blind([]byte("x"), r))}, {Amount: 2, Point: ok(blind.Blind([]byte("y"), r))}}
	signed, errno := m.Do(api.Request{Kind: api.Issue, Name: "a", Out: out})
	if errno != api.OK || len(signed) != 2 {
		t.Fatalf("M3: Issue: %d signed, %d", len(signed), errno)
	}
	var in []api.Token
	for i, s := range signed {
		public := m.Keys().Public[i]
		if !blind.Right(public, out[i].Point, s.Sign, s.Proof) {
			t.Errorf("M3: entry %d is not Right", i)
		}
		in = append(in, api.Token{Amount: s.Amount, Keys: m.Keys().Name, Secret: []byte{'x' + byte(i)}, Sign: ok(blind.Unblind(s.Sign, r, public))})
	}
	spends(t, "M3: ahead", m, "x", false)
	does(t, "M3: the tokens that came of it", m, api.Request{Kind: api.Pay, Name: "b", Amount: 3, In: in}, api.OK)
	spends(t, "M3: behind", m, "x", true)
	spends(t, "M3: behind", m, "y", true)
}

// again holds that nothing changes where a request was done before.
func again(t *testing.T, what string, m *mint.Mint, r api.Request) {
	t.Helper()
	before := standOf(m)
	does(t, what, m, r, api.OK)
	before.holds(t, what, m)
}

func TestAgain(t *testing.T) {
	m := ready(t)
	for _, r := range ordinary() {
		does(t, "M3", m, r(), api.OK)
		again(t, "M3: at once", m, r())
	}
	other := opened(t, m.Disk(), room)
	tight := opened(t, m.Disk(), len(m.Disk()))
	armed := opened(t, m.Disk(), room)
	armed.Arm(0)
	for _, r := range ordinary() {
		again(t, "M3: later", m, r())
		again(t, "M3: behind Open", other, r())
		again(t, "M3: without room", tight, r())
		again(t, "M3: where no byte reaches the disk", armed, r())
	}
	// What has no entries is the same, be it nil or not (E3).
	again(t, "E3: nil or empty", m, changed(issue(), func(r *api.Request) { r.In = []api.Token{} }))
	none := api.Request{Kind: api.Pay, Name: "x", Amount: 1, In: tokens("n", 1)}
	does(t, "M3: without an Out", m, none, api.OK)
	none.Out = []api.Hidden{}
	again(t, "E3: nil or empty", m, none)
}

// A request that is not done is not one that was done before.
func TestAgainBehindARefusal(t *testing.T) {
	m := begun(t, room)
	refuses(t, "M3: without an order", m, issue(), api.ErrQuote)
	refuses(t, "M3: without an order", m, issue(), api.ErrQuote)
	funds(t, "M2", m, "order", 7, api.OK)
	does(t, "M3: with one", m, issue(), api.OK)
	again(t, "M3: at once", m, issue())
	full := begun(t, 379)
	r := api.Request{Kind: api.Swap, In: tokens("f", 4), Out: hiddens("f", many(4, 1)...)}
	funds(t, "M2", full, nameOf(64), 5, api.OK)
	funds(t, "M2", full, nameOf(63), 5, api.OK)
	refuses(t, "M3: without room", full, r, api.ErrFull)
	refuses(t, "M3: without room", full, r, api.ErrFull)
	spends(t, "M3: without room", full, "f0", false)
	r.Out = hiddens("f", 4)
	does(t, "M3: a shorter one has room", full, r, api.OK)
}

// A request that differs in one field alone from one that was done is another one.
func TestNearlyTheSame(t *testing.T) {
	m := ready(t)
	for _, r := range ordinary() {
		does(t, "M3", m, r(), api.OK)
	}
	funds(t, "M2", m, "other", 7, api.OK)
	for _, kept := range []*mint.Mint{m, opened(t, m.Disk(), room)} {
		nearlyIssued(t, kept)
		nearlyTaken(t, kept, swap)
		nearlyTaken(t, kept, pay)
		refuses(t, "M3: another name of Pay", kept, changed(pay(), func(r *api.Request) { r.Name = "shop2" }), api.ErrSpent)
		refuses(t, "M3: another amount of Pay", kept, changed(pay(), func(r *api.Request) { r.Amount = 4 }), api.ErrSpent)
		refuses(t, "M3: another kind", kept, changed(pay(), func(r *api.Request) { r.Kind, r.Name, r.Amount = api.Swap, "", 0 }), api.ErrSpent)
		refuses(t, "M3: another kind", kept, changed(swap(), func(r *api.Request) { r.Kind, r.Name, r.Amount = api.Pay, "x", 1 }), api.ErrSpent)
	}
	does(t, "M3: another order", m, changed(issue(), func(r *api.Request) { r.Name = "other" }), api.OK)
}

func nearlyIssued(t *testing.T, m *mint.Mint) {
	t.Helper()
	refuses(t, "M3: another point", m, changed(issue(), func(r *api.Request) { r.Out[1].Point = pointOf("else") }), api.ErrState)
	refuses(t, "M3: the opposite point", m, changed(issue(), func(r *api.Request) { r.Out[1].Point[0] ^= 1 }), api.ErrState)
	refuses(t, "M3: another order of Out", m, changed(issue(), func(r *api.Request) { slices.Reverse(r.Out) }), api.ErrState)
	refuses(t, "M3: other amounts", m, changed(issue(), func(r *api.Request) { r.Out[0].Amount, r.Out[1].Amount = 2, 1 }), api.ErrState)
	refuses(t, "M3: one more", m, changed(issue(), func(r *api.Request) { r.Out = append(r.Out, r.Out[0]) }), api.ErrState)
	refuses(t, "M3: one less", m, changed(issue(), func(r *api.Request) { r.Out = r.Out[:2] }), api.ErrState)
	refuses(t, "M3: none", m, changed(issue(), func(r *api.Request) { r.Out = nil }), api.ErrState)
	refuses(t, "M3: another name", m, changed(issue(), func(r *api.Request) { r.Name = "orders" }), api.ErrQuote)
}

func nearlyTaken(t *testing.T, m *mint.Mint, base func() api.Request) {
	t.Helper()
	for _, change := range []func(*api.Request){
		func(r *api.Request) { r.Out[0].Point = pointOf("else") },
		func(r *api.Request) { slices.Reverse(r.Out) },
		func(r *api.Request) { slices.Reverse(r.In) },
		func(r *api.Request) { r.Out = r.Out[1:] },
		func(r *api.Request) { r.In = r.In[1:] },
		func(r *api.Request) { r.In = append(r.In, tokenOf(1, "unspent")) },
		func(r *api.Request) { r.In = append(tokens("unspent", 1), r.In...) },
		func(r *api.Request) { r.In[0] = tokenOf(r.In[0].Amount, "unspent") },
		func(r *api.Request) { r.In[1] = tokenOf(2*r.In[1].Amount, string(r.In[1].Secret)) },
	} {
		refuses(t, "M3: nearly the same", m, changed(base(), change), api.ErrSpent)
	}
	spends(t, "M3: nearly the same", m, "unspent", false)
}

// A secret is spent whatever its amount was, and by requests of both kinds.
func TestSpentSecrets(t *testing.T) {
	m := ready(t)
	does(t, "M3", m, api.Request{Kind: api.Swap, In: []api.Token{tokenOf(1, "a")}, Out: hiddens("x", 1)}, api.OK)
	does(t, "M3", m, api.Request{Kind: api.Pay, Name: "x", Amount: 1, In: []api.Token{tokenOf(1, "b")}}, api.OK)
	for _, secret := range []string{"a", "b"} {
		for _, amount := range []uint64{1, 2, 1 << 19} {
			token := tokenOf(amount, secret)
			refuses(t, "M3: Swap of a spent one", m, api.Request{Kind: api.Swap, In: []api.Token{token}, Out: hiddens("y", amount)}, api.ErrSpent)
			refuses(t, "M3: Pay of a spent one", m, api.Request{Kind: api.Pay, Name: "y", Amount: amount, In: []api.Token{token}}, api.ErrSpent)
			refuses(t, "M3: a spent one behind others", m, api.Request{Kind: api.Swap, In: append(tokens("c", amount, amount), token), Out: hiddens("y", amount, amount, amount)}, api.ErrSpent)
		}
	}
	spends(t, "M3: one that came with a spent one", m, "c0", false)
	does(t, "M3: one that came with a spent one", m, api.Request{Kind: api.Swap, In: tokens("c", 2), Out: hiddens("y", 2)}, api.OK)
}

func TestOrders(t *testing.T) {
	m := begun(t, room)
	one := func(name string, amounts ...uint64) api.Request {
		return api.Request{Kind: api.Issue, Name: name, Out: hiddens("o", amounts...)}
	}
	refuses(t, "M3: no order", m, one("a", 1), api.ErrQuote)
	funds(t, "M2", m, "a", 3, api.OK)
	funds(t, "M2", m, "a\x00", 1<<40, api.OK)
	funds(t, "M2", m, "A", 1, api.OK)
	for _, amounts := range [][]uint64{nil, {}, {1}, {2}, {4}, {2, 2}, {1, 2, 1}, {1 << 19}} {
		refuses(t, "M3: another sum", m, one("a", amounts...), api.ErrSum)
	}
	refuses(t, "M3: an order that is too large", m, one("a\x00", many(64, 1<<19)...), api.ErrSum)
	does(t, "M3: a", m, one("a", 1, 2), api.OK)
	refuses(t, "M3: used", m, one("a", 2, 1), api.ErrState)
	refuses(t, "M3: used, and another sum", m, one("a", 2), api.ErrState)
	does(t, "M3: A", m, one("A", 1), api.OK)
	refuses(t, "M3: no order", m, one("aa", 1), api.ErrQuote)
	if b := m.Book(); b.Used != 4 || b.Funded != 1<<40+4 || b.Issued != 4 {
		t.Errorf("M4: Book: %+v", b)
	}
}

func TestSums(t *testing.T) {
	for _, sums := range []struct {
		in, out []uint64
		paid    uint64
		want    api.Errno
	}{
		{[]uint64{4}, []uint64{4}, 0, api.OK}, {[]uint64{4}, []uint64{1, 1, 2}, 0, api.OK}, {[]uint64{1, 1, 2}, []uint64{4}, 0, api.OK},
		{[]uint64{4}, nil, 0, api.ErrSum}, {[]uint64{4}, []uint64{2}, 0, api.ErrSum}, {[]uint64{4}, []uint64{8}, 0, api.ErrSum}, {[]uint64{4}, []uint64{4, 1}, 0, api.ErrSum}, {[]uint64{4, 1}, []uint64{4}, 0, api.ErrSum},
		{[]uint64{4}, nil, 4, api.OK}, {[]uint64{4}, []uint64{1}, 3, api.OK}, {[]uint64{1 << 19, 1 << 19}, []uint64{1 << 19}, 1 << 19, api.OK},
		{[]uint64{4}, nil, 3, api.ErrSum}, {[]uint64{4}, nil, 5, api.ErrSum}, {[]uint64{4}, []uint64{4}, 4, api.ErrSum}, {[]uint64{4}, []uint64{1}, 4, api.ErrSum}, {[]uint64{4}, []uint64{4}, 1, api.ErrSum}, {[]uint64{4}, []uint64{8}, 4, api.ErrSum},
	} {
		r := api.Request{Kind: api.Swap, In: tokens("x", sums.in...), Out: hiddens("x", sums.out...)}
		if sums.paid > 0 {
			r.Kind, r.Name, r.Amount = api.Pay, "order", sums.paid
		}
		doesAlone(t, "M3: sums", r, sums.want)
	}
}

// Pay to the name of an order has nothing to do with the order.
func TestPayToAnOrder(t *testing.T) {
	m := ready(t)
	does(t, "M3: Pay", m, api.Request{Kind: api.Pay, Name: "order", Amount: 1, In: tokens("x", 1)}, api.OK)
	does(t, "M3: Issue", m, issue(), api.OK)
	does(t, "M3: Pay", m, api.Request{Kind: api.Pay, Name: "order", Amount: 7, In: tokens("y", 8), Out: hiddens("x", 1)}, api.OK)
	does(t, "M3: Pay to one that is none", m, api.Request{Kind: api.Pay, Name: "none", Amount: 7, In: tokens("z", 8), Out: hiddens("x", 1)}, api.OK)
	if b := m.Book(); b.Used != 7 || b.Paid != 15 {
		t.Errorf("M4: Book: %+v", b)
	}
}

// A point may be signed more than once, by one request and by several.
func TestPointsAgain(t *testing.T) {
	m := ready(t)
	same := []api.Hidden{hiddenOf(1, "p"), hiddenOf(1, "p"), hiddenOf(1, "p"), hiddenOf(4, "p")}
	does(t, "M3: one point, in one request", m, changed(issue(), func(r *api.Request) { r.Out = same }), api.OK)
	does(t, "M3: the same point, in another", m, api.Request{Kind: api.Swap, In: tokens("q", 1), Out: same[:1]}, api.OK)
	does(t, "M3: the same point, in another", m, api.Request{Kind: api.Pay, Name: "x", Amount: 1, In: tokens("r", 2), Out: same[:1]}, api.OK)
	var point [33]byte
	copy(point[:], ok(group.HashTo("token", []byte("q0"))))
	does(t, "M3: the point of a secret that is spent", m, api.Request{Kind: api.Swap, In: tokens("t", 1), Out: []api.Hidden{{Amount: 1, Point: point[:]}}}, api.OK)
}

func TestMintsDoNotKnowOfOneAnother(t *testing.T) {
	a, b := ready(t), ready(t)
	does(t, "E1: one", a, issue(), api.OK)
	does(t, "E1: one", a, swap(), api.OK)
	a.Arm(0)
	does(t, "E1: one", a, pay(), api.ErrPower)
	for _, r := range ordinary() {
		does(t, "E1: another", b, r(), api.OK)
	}
	c, errno := mint.New(some(32, "other seed"), room)
	if errno != api.OK || bytes.Equal(c.Keys().Name, a.Keys().Name) {
		t.Fatalf("M1: New of another seed: %d", errno)
	}
	refuses(t, "M3: tokens of another mint", c, swap(), api.ErrKeys)
	foreign := changed(swap(), func(r *api.Request) {
		for i := range r.In {
			r.In[i].Keys = c.Keys().Name
		}
	})
	refuses(t, "M3: tokens of another mint, under its name", c, foreign, api.ErrProof)
}
