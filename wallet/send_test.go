package wallet_test

import (
	"math"
	"slices"
	"testing"

	"mintvault/api"
	"mintvault/wire"
)

// sends holds the amounts of what is sent.
func (p *twin) sends(amount uint64, want ...uint64) []api.Token {
	p.Helper()
	l, errno := wire.Tokens(p.send(amount, api.OK))
	var got []uint64
	for _, t := range l {
		got = append(got, t.Amount)
	}
	if errno != api.OK || !slices.Equal(got, want) {
		p.Errorf("V3: Send of %d: %v, %d, want %v", amount, got, errno, want)
	}
	return l
}

func TestSend(t *testing.T) {
	p := with(t, 7, 4, 2)
	p.has(1, 2, 4, 4, 2)
	before := p.w.Tokens()
	if l := p.sends(10, 4, 4, 2); !slices.EqualFunc(l, []api.Token{before[2], before[3], before[1]}, sameToken) {
		t.Errorf("V3: of tokens of the same amount others are sent than the first ones: %+v", l)
	}
	p.has(1, 2)
	p.sends(1, 1)
	p.has(2)
	p.send(1, api.ErrNone)
	p.sends(2, 2)
	p.has()
	p.send(1, api.ErrFunds)
}

// The greatest ones that fit are taken, whether the amount comes out that way or not.
func TestWhatIsSent(t *testing.T) {
	p := with(t, 1, 8, 2, 1, 4, 1, 2, 64)
	for _, x := range []struct {
		amount uint64
		want   []uint64
	}{
		{1, of(1)}, {2, of(2)}, {3, of(2, 1)}, {4, of(4)}, {5, of(4, 1)}, {6, of(4, 2)}, {7, of(4, 2, 1)}, {8, of(8)}, {15, of(8, 4, 2, 1)}, {16, of(8, 4, 2, 2)}, {17, of(8, 4, 2, 2, 1)}, {19, of(8, 4, 2, 2, 1, 1, 1)}, {64, of(64)}, {66, of(64, 2)}, {83, of(64, 8, 4, 2, 2, 1, 1, 1)},
	} {
		p.again(room).sends(x.amount, x.want...)
	}
	for amount := uint64(20); amount < 64; amount++ {
		p.send(amount, api.ErrNone)
	}
	for _, amount := range []uint64{84, 128, 1 << 40, 1 << 63, math.MaxUint64} {
		p.send(amount, api.ErrFunds)
	}
	p.send(0, api.ErrRange)
}

// While a request is open the others may be sent; those that were taken for it may not.
func TestSendWhileARequestIsOpen(t *testing.T) {
	p := with(t, 3, 4)
	p.change(3, api.OK)
	p.has(4)
	p.send(1, api.ErrNone)
	p.send(5, api.ErrFunds)
	p.sends(4, 4)
	p.has()
	p.again(room)
	p.served()
	p.has(1, 2)
	p.ask("a", 8, api.OK)
	p.sends(3, 2, 1)
	p.served()
	p.has(8)
	p.pay("a", 1, api.OK)
	p.refused(api.OK)
	p.sends(8, 8)
	p.has()
}

func TestSendOfMany(t *testing.T) {
	p := with(t, 64*largest, 2, largest)
	p.send(65*largest, api.ErrLong)
	p.send(65*largest+2, api.ErrLong)
	p.send(65*largest+1, api.ErrNone)
	p.send(64*largest+2, api.ErrLong)
	p.send(64*largest+1, api.ErrNone)
	p.send(65*largest+3, api.ErrFunds)
	p.again(room).sends(63*largest+2, append(many(63, largest), 2)...)
	l := p.sends(64*largest, many(64, largest)...)
	p.has(2, largest)
	p.receive(textOf(l), api.OK)
}
