package mint_test

import (
	"strings"
	"testing"

	"mintvault/api"
	"mintvault/mint"
)

// refusesMoney holds that nothing comes of money that is refused.
func refusesMoney(t *testing.T, what string, m *mint.Mint, name string, amount uint64, want api.Errno) {
	t.Helper()
	before := standOf(m)
	funds(t, what, m, name, amount, want)
	before.holds(t, what+", which was refused", m)
}

func TestFund(t *testing.T) {
	m := begun(t, room)
	want := stand{}
	var records [][]byte
	for i, n := range []int{1, 2, 63, 64} {
		amount := []uint64{1, 2, 1<<40 - 1, 1 << 40}[i]
		funds(t, "M2: an order", m, nameOf(n), amount, api.OK)
		records = append(records, moneyOf(nameOf(n), amount))
		want.disk = diskOf(records...)
		want.book.Funded += amount
		want.holds(t, "M2: an order", m)
	}
	want.holds(t, "M1: behind Open", opened(t, m.Disk(), room))
}

func TestFundIsRefused(t *testing.T) {
	m := ready(t)
	for _, n := range []int{0, 65, 66, 1000, 100000} {
		for _, amount := range append(noMoney(), 1, 7, 1<<40) {
			refusesMoney(t, "M2: a name that is none", m, nameOf(n), amount, api.ErrForm)
		}
	}
	for _, amount := range noMoney() {
		refusesMoney(t, "M2: an amount that is none", m, "x", amount, api.ErrRange)
		refusesMoney(t, "M2: an amount that is none, and a name that is there", m, "order", amount, api.ErrRange)
	}
	for _, amount := range []uint64{1, 7, 8, 1 << 40} {
		refusesMoney(t, "M2: twice", m, "order", amount, api.ErrTwice)
	}
	funds(t, "M2: another name", m, "orders", 7, api.OK)
	funds(t, "M2: another name", m, "Order", 7, api.OK)
	funds(t, "M2: another name", m, strings.Repeat("\x00", 64), 7, api.OK)
	does(t, "M3", m, issue(), api.OK)
	refusesMoney(t, "M2: twice, and used", m, "order", 7, api.ErrTwice)
	refusesMoney(t, "M2: twice, behind Open", opened(t, m.Disk(), room), "order", 7, api.ErrTwice)
	refusesMoney(t, "M2: twice, and no room", opened(t, m.Disk(), len(m.Disk())), "order", 7, api.ErrTwice)
}

// Money that does not fit has not come in.
func TestFundWithoutRoom(t *testing.T) {
	record := moneyOf(nameOf(60), 5)
	for _, limit := range []int{64, len(record) + around - 1} {
		m := begun(t, limit)
		refusesMoney(t, "M2: no room", m, nameOf(60), 5, api.ErrFull)
		refusesMoney(t, "M2: no room, again", m, nameOf(60), 5, api.ErrFull)
		refuses(t, "M3: no order", m, api.Request{Kind: api.Issue, Name: nameOf(60), Out: hiddens("x", 1, 4)}, api.ErrQuote)
		funds(t, "M2: a shorter one", m, "a", 5, api.OK)
		refuses(t, "M3: no room", m, api.Request{Kind: api.Issue, Name: "a", Out: hiddens("x", 1, 4)}, api.ErrFull)
	}
	m := begun(t, len(record)+around)
	funds(t, "M2: just room", m, nameOf(60), 5, api.OK)
	refusesMoney(t, "M2: no more room", m, "a", 5, api.ErrFull)
}

// A name of Pay is no order, and an order is no request.
func TestOrdersAreNoRequests(t *testing.T) {
	m := ready(t)
	does(t, "M3", m, pay(), api.OK)
	funds(t, "M2: a name to whom was paid", m, "shop", 7, api.OK)
	if b, done := m.Book(), m.Done(); b.Count != 1 || len(done) != 1 || b.Funded != 14 {
		t.Errorf("M4: Book: %+v, %d done", b, len(done))
	}
}
