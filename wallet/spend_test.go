package wallet_test

import (
	"math"
	"testing"

	"mintvault/api"
)

func TestPay(t *testing.T) {
	p := with(t, 7, 4)
	p.pay("shop", 4, api.OK)
	p.wants(of(1, 2, 4), of(1, 2))
	if r, _ := p.w.Asked(); r.Kind != api.Pay || r.Name != "shop" || r.Amount != 4 {
		t.Errorf("V2: Pay: %+v", r)
	}
	p.has(4)
	p.refused(api.OK)
	p.has(4, 1, 2, 4)
	p.pay("shop", 5, api.OK)
	p.wants(of(4, 1), nil)
	p.has(2, 4)
	p.served()
	p.has(2, 4)
	p.pay("shop", 6, api.OK)
	p.wants(of(2, 4), nil)
	p.has()
	p.answer([]api.Signed{}, api.OK)
	p.has()
	p.pay("shop", 1, api.ErrFunds)
}

func TestPayAtItsEdges(t *testing.T) {
	p := with(t, 5)
	for _, n := range []int{0, 65, 66, 1000} {
		p.pay(nameOf(n), 1, api.ErrForm)
	}
	for _, amount := range []uint64{0, 1<<40 + 1, 1 << 41, 1 << 63, math.MaxUint64} {
		p.pay("a", amount, api.ErrRange)
	}
	for _, amount := range []uint64{6, 7, largest, 1<<40 - 1, 1 << 40} {
		p.pay("a", amount, api.ErrFunds)
	}
	for _, n := range []int{1, 64} {
		for amount := range uint64(5) {
			p.pay(nameOf(n), amount+1, api.OK)
			p.refused(api.OK)
		}
	}
	p = begun(t, room)
	p.pay("a", 1, api.ErrFunds)
	p.change(1, api.ErrFunds)
	p.send(1, api.ErrFunds)
}

// Tokens are taken from the first one on, whatever would fit better, and no more than are needed.
func TestWhatIsTakenFirst(t *testing.T) {
	p := with(t, 8, 1, 4, 2, 2)
	for _, x := range []struct {
		amount  uint64
		in, out []uint64
	}{
		{1, of(8), of(1, 2, 4)}, {8, of(8), nil}, {9, of(8, 1), nil}, {10, of(8, 1, 4), of(1, 2)}, {13, of(8, 1, 4), nil}, {14, of(8, 1, 4, 2), of(1)}, {17, of(8, 1, 4, 2, 2), nil},
	} {
		q := p.again(room)
		q.pay("a", x.amount, api.OK)
		q.wants(x.in, x.out)
		q = p.again(room)
		q.change(x.amount, api.OK)
		q.wants(x.in, append(splitOf(x.amount), x.out...))
	}
}

func TestPayOfMany(t *testing.T) {
	p := with(t, 64*largest, largest)
	for _, amount := range []uint64{64*largest + 1, 65*largest - 1, 65 * largest} {
		p.pay("a", amount, api.ErrLong)
		p.change(amount, api.ErrLong)
	}
	p.pay("a", 65*largest+1, api.ErrFunds)
	p.pay("a", 63*largest+1, api.OK)
	p.wants(many(64, largest), splitOf(largest-1))
	p.refused(api.OK)
	p.pay("a", 64*largest, api.OK)
	p.wants(many(64, largest), nil)
	p.served()
	p.has(largest)
}

func TestChange(t *testing.T) {
	p := with(t, 8)
	p.send(3, api.ErrNone)
	p.change(3, api.OK)
	p.wants(of(8), of(1, 2, 1, 4)) // as the document's example says
	if r, _ := p.w.Asked(); r.Kind != api.Swap || r.Name != "" || r.Amount != 0 {
		t.Errorf("V2: Change: %+v", r)
	}
	p.has()
	p.served()
	p.has(1, 2, 1, 4)
	p.again(room).send(3, api.OK)
	p.change(8, api.OK)
	p.wants(of(1, 2, 1, 4), of(8))
	p.refused(api.OK)
	p.has(1, 2, 1, 4)
	p.change(4, api.OK)
	p.wants(of(1, 2, 1), of(4))
	p.has(4)
	p.refused(api.OK)
	p.has(4, 1, 2, 1)
}

func TestChangeAtItsEdges(t *testing.T) {
	p := with(t, 5)
	p.change(0, api.ErrRange)
	for _, amount := range []uint64{6, 7, 1 << 40, 1<<40 + 1, 1 << 63, math.MaxUint64} {
		p.change(amount, api.ErrFunds)
	}
	for amount := range uint64(5) {
		p.change(amount+1, api.OK)
		p.refused(api.OK)
	}
}

// Splits that are too long, alone and both together.
func TestChangeOfMany(t *testing.T) {
	p := with(t, 64*largest)
	for _, amount := range []uint64{46*largest + largest - 1, 63*largest + largest - 1, 45*largest + largest - 1} {
		p.change(amount, api.ErrLong)
	}
	for _, amount := range []uint64{1, largest - 1, 44*largest + largest - 1, 63 * largest, 64 * largest} {
		p.change(amount, api.OK)
		p.refused(api.OK)
	}
	// 46 entries, and 18 for what is more; then 46 and 19, 47 and 18, 64 and 1, 63 and 1.
	p.change(45*largest+2, api.OK)
	p.wants(many(46, largest), append(append(of(2), many(45, largest)...), splitOf(largest-2)...))
	p.served()
	p = with(t, 64*largest)
	p.change(45*largest+1, api.ErrLong)
	p.change(46*largest+2, api.ErrLong)
	p.change(63*largest+1<<18, api.ErrLong)
	p.change(62*largest+1<<18, api.OK)
}
