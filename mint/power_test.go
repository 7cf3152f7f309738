package mint_test

import (
	"bytes"
	"testing"

	"mintvault/api"
	"mintvault/mint"
)

// stroke is something that has a record.
type stroke struct {
	record []byte
	do     func(*mint.Mint) api.Errno
}

func asked(r api.Request) stroke {
	return stroke{recordOf(r), func(m *mint.Mint) api.Errno {
		_, errno := m.Do(r)
		return errno
	}}
}

func strokes() []stroke {
	return []stroke{
		{moneyOf("new", 5), func(m *mint.Mint) api.Errno { return m.Fund("new", 5) }},
		asked(api.Request{Kind: api.Issue, Name: "order", Out: hiddens("w", 1)}),
		asked(api.Request{Kind: api.Swap, In: tokens("w", 1), Out: hiddens("w", 1)}),
		asked(api.Request{Kind: api.Pay, Name: "x", Amount: 1, In: tokens("w", 1)}),
	}
}

// before has done something already, and has an order of 1.
func before() [][]byte {
	return [][]byte{moneyOf("order", 1), recordOf(api.Request{Kind: api.Swap, In: tokens("done", 2), Out: hiddens("done", 2)})}
}

// isDark holds that all calls that say so answer ErrPower, ahead of all else, and that nothing changes.
func isDark(t *testing.T, what string, m *mint.Mint) {
	t.Helper()
	want := standOf(m)
	for _, name := range []string{"", "a", "order", nameOf(65)} {
		for _, amount := range []uint64{0, 1, 1<<40 + 1} {
			funds(t, what, m, name, amount, api.ErrPower)
		}
	}
	for _, r := range []api.Request{{}, issue(), swap(), {Kind: api.Swap, In: tokens("done", 2), Out: hiddens("done", 2)}, {Kind: api.Issue, Name: "order", Out: make([]api.Hidden, 65)}} {
		does(t, what, m, r, api.ErrPower)
	}
	for _, secrets := range [][][]byte{nil, {}, {[]byte("done0")}, make([][]byte, 64), make([][]byte, 65)} {
		if got, errno := m.Spent(secrets); errno != api.ErrPower || len(got) != 0 {
			t.Errorf("%s: M5: Spent of %d: %v, %d", what, len(secrets), got, errno)
		}
	}
	if set := m.Keys(); !bytes.Equal(set.Name, setName()) || len(set.Public) != 20 {
		t.Errorf("%s: M5: Keys: %x", what, set)
	}
	want.holds(t, what, m)
}

// fallsDark does it with fewer bytes than it needs.
func fallsDark(t *testing.T, s stroke, m *mint.Mint, n int) {
	t.Helper()
	want := standOf(m)
	if errno := s.do(m); errno != api.ErrPower {
		t.Errorf("M5: with %d of %d bytes: %d", n, len(s.record)+around, errno)
	}
	whole := want.disk
	want.disk = append(bytes.Clone(whole), frame(2, s.record)[:n]...)
	want.holds(t, "M5: the power has gone", m)
	for _, more := range []int{-1, 0, 1 << 20} {
		m.Arm(more)
		isDark(t, "M5: without power", m)
	}
	want.holds(t, "M5: without power", m)
	o := opened(t, m.Disk(), room)
	stand{whole, want.book, want.done}.holds(t, "M1: opened again", o)
	if errno := s.do(o); errno != api.OK {
		t.Errorf("M1: done once more behind Open: %d", errno)
	}
	if !bytes.Equal(o.Disk(), diskOf(append(before(), s.record)...)) {
		t.Error("M1: done once more behind Open, it is not recorded")
	}
}

// staysLit does it with enough bytes; what is left over does not do for another one.
func staysLit(t *testing.T, s stroke, m *mint.Mint, n int) {
	t.Helper()
	if errno := s.do(m); errno != api.OK {
		t.Errorf("M5: with %d of %d bytes: %d", n, len(s.record)+around, errno)
	}
	want := standOf(m)
	if !bytes.Equal(want.disk, diskOf(append(before(), s.record)...)) {
		t.Error("M5: it is not recorded")
	}
	want.holds(t, "M1: opened again", opened(t, m.Disk(), room))
	spends(t, "M5: with power", m, "done0", true)
	last := frame(3, moneyOf("last", 9))
	funds(t, "M5: the next one", m, "last", 9, api.ErrPower)
	want.disk = append(want.disk, last[:n-len(s.record)-around]...)
	want.holds(t, "M5: the next one", m)
	isDark(t, "M5: the next one", m)
}

// Each number of bytes below, at and above those of a frame.
func TestPower(t *testing.T) {
	disk := diskOf(before()...)
	for _, s := range strokes() {
		size := len(s.record) + around
		for n := range size + 8 {
			m := opened(t, disk, room)
			m.Arm(n)
			if n < size {
				fallsDark(t, s, m, n)
			} else {
				staysLit(t, s, m, n)
			}
			if t.Failed() {
				return
			}
		}
	}
}

// What is refused, or was done before, writes nothing: the power stays.
func TestPowerStays(t *testing.T) {
	m := opened(t, diskOf(before()...), room)
	m.Arm(0)
	refusesMoney(t, "M5: no name", m, "", 1, api.ErrForm)
	refusesMoney(t, "M5: no amount", m, "x", 0, api.ErrRange)
	refusesMoney(t, "M5: twice", m, "order", 1, api.ErrTwice)
	refuses(t, "M5: not formed", m, api.Request{}, api.ErrForm)
	refuses(t, "M5: no order", m, api.Request{Kind: api.Issue, Name: "none", Out: hiddens("w", 1)}, api.ErrQuote)
	refuses(t, "M5: spent", m, api.Request{Kind: api.Swap, In: tokens("done", 2), Out: hiddens("w", 2)}, api.ErrSpent)
	refuses(t, "M5: another sum", m, api.Request{Kind: api.Swap, In: tokens("w", 2), Out: hiddens("w", 1)}, api.ErrSum)
	again(t, "M5: done before", m, api.Request{Kind: api.Swap, In: tokens("done", 2), Out: hiddens("done", 2)})
	spends(t, "M5: with power", m, "done0", true)
	m.Arm(-5)
	for _, s := range strokes()[:3] {
		if errno := s.do(m); errno != api.OK {
			t.Errorf("M5: armed again: %d", errno)
		}
	}
	m.Arm(0)
	funds(t, "M5: no byte", m, "y", 1, api.ErrPower)
	isDark(t, "M5: no byte", m)
}

// Bytes are used up by one record behind the other.
func TestPowerForSeveral(t *testing.T) {
	m := opened(t, diskOf(before()...), room)
	all, sum := strokes()[:3], 0
	for _, s := range all {
		sum += len(s.record) + around
	}
	m.Arm(sum)
	for _, s := range all {
		if errno := s.do(m); errno != api.OK {
			t.Errorf("M5: enough for all: %d", errno)
		}
	}
	want := standOf(m)
	funds(t, "M5: one more", m, "y", 1, api.ErrPower)
	want.holds(t, "M5: one more", m)
	want.holds(t, "M1: opened again", opened(t, m.Disk(), room))
}
