package mint_test

import (
	"bytes"
	"crypto/sha3"
	"encoding/binary"
	"slices"
	"strconv"
	"testing"

	"mintvault/api"
	"mintvault/keys"
	"mintvault/mint"
)

// told is a mint as the document tells of it.
type told struct {
	limit   int
	records [][]byte
	armed   bool
	left    int
	off     bool
	orders  map[string]uint64
	used    map[string]bool
	spent   map[string]bool
	stand
}

func newTold(limit int) *told {
	return &told{limit: limit, orders: map[string]uint64{}, used: map[string]bool{}, spent: map[string]bool{}}
}

func (d *told) arm(n int) { d.armed, d.left = n >= 0, n }

// open has what was recorded whole.
func (d *told) open() {
	d.disk = diskOf(d.records...)
	d.armed, d.off = false, false
}

func (d *told) add(record []byte) api.Errno {
	f := frame(len(d.records), record)
	if len(d.disk)+len(f) > d.limit {
		return api.ErrFull
	}
	for _, c := range f {
		if d.armed && d.left == 0 {
			d.off = true
			return api.ErrPower
		}
		d.disk = append(d.disk, c)
		d.left--
	}
	d.records = append(d.records, record)
	return api.OK
}

func (d *told) fund(name string, amount uint64) api.Errno {
	switch {
	case d.off:
		return api.ErrPower
	case len(name) < 1 || len(name) > 64:
		return api.ErrForm
	case amount < 1 || amount > 1<<40:
		return api.ErrRange
	case d.orders[name] > 0:
		return api.ErrTwice
	}
	errno := d.add(moneyOf(name, amount))
	if errno == api.OK {
		d.orders[name] = amount
		d.book.Funded += amount
	}
	return errno
}

func (d *told) do(r api.Request) api.Errno {
	if d.off {
		return api.ErrPower
	}
	if errno := formed(r); errno != api.OK {
		return errno
	}
	if slices.ContainsFunc(d.done, func(old api.Request) bool { return sameRequest(old, r) }) {
		return api.OK
	}
	if errno := d.allows(r); errno != api.OK {
		return errno
	}
	errno := d.add(recordOf(r))
	if errno == api.OK {
		d.note(r)
	}
	return errno
}

func (d *told) allows(r api.Request) api.Errno {
	in, out := sums(r)
	for _, t := range r.In {
		if d.spent[string(t.Secret)] {
			return api.ErrSpent
		}
	}
	switch {
	case r.Kind == api.Issue && d.orders[r.Name] == 0:
		return api.ErrQuote
	case r.Kind == api.Issue && d.used[r.Name]:
		return api.ErrState
	case r.Kind == api.Issue && out != d.orders[r.Name], r.Kind == api.Swap && out != in, r.Kind == api.Pay && out+r.Amount != in:
		return api.ErrSum
	}
	return api.OK
}

func (d *told) note(r api.Request) {
	in, out := sums(r)
	d.book.Spent += in
	d.book.Issued += out
	d.book.Count++
	if r.Kind == api.Issue {
		d.used[r.Name] = true
		d.book.Used += d.orders[r.Name]
	}
	if r.Kind == api.Pay {
		d.book.Paid += r.Amount
	}
	for _, t := range r.In {
		d.spent[string(t.Secret)] = true
	}
	d.done = append(d.done, r)
}

func sums(r api.Request) (in, out uint64) {
	for _, t := range r.In {
		in += t.Amount
	}
	for _, h := range r.Out {
		out += h.Amount
	}
	return in, out
}

// formed goes through the document's seven rules.
func formed(r api.Request) api.Errno {
	switch {
	case r.Kind != api.Issue && r.Kind != api.Swap && r.Kind != api.Pay,
		r.Kind == api.Swap && r.Name != "", r.Kind != api.Swap && (len(r.Name) < 1 || len(r.Name) > 64),
		r.Kind != api.Pay && r.Amount != 0, (r.Kind == api.Issue) != (len(r.In) == 0):
		return api.ErrForm
	case len(r.In) > 64 || len(r.Out) > 64:
		return api.ErrLong
	case r.Kind == api.Pay && (r.Amount < 1 || r.Amount > 1<<40):
		return api.ErrRange
	}
	if slices.ContainsFunc(r.In, func(t api.Token) bool { return !isAmount(t.Amount) }) || slices.ContainsFunc(r.Out, func(h api.Hidden) bool { return !isAmount(h.Amount) }) {
		return api.ErrRange
	}
	for _, h := range r.Out {
		if slices.ContainsFunc(noPoints(), func(b []byte) bool { return bytes.Equal(b, h.Point) }) {
			return api.ErrPoint
		}
	}
	return formedIn(r.In)
}

func formedIn(in []api.Token) api.Errno {
	if slices.ContainsFunc(in, func(t api.Token) bool { return !bytes.Equal(t.Keys, setName()) }) {
		return api.ErrKeys
	}
	secrets := map[string]bool{}
	for _, t := range in {
		if len(t.Secret) < 1 || len(t.Secret) > 64 || !bytes.Equal(t.Sign, tokenOf(t.Amount, string(t.Secret)).Sign) {
			return api.ErrProof
		}
		secrets[string(t.Secret)] = true
	}
	if len(secrets) < len(in) {
		return api.ErrTwice
	}
	return api.OK
}

func isAmount(amount uint64) bool {
	for i := range 20 {
		if amount == 1<<i {
			return true
		}
	}
	return false
}

// dice tell a run what it does.
type dice struct {
	*sha3.SHAKE
}

func (d dice) pick(n int) int {
	var b [8]byte
	d.Read(b[:])
	return int(binary.BigEndian.Uint64(b[:]) % uint64(n))
}

func (d dice) name() string { return string(rune('a' + d.pick(6))) }

// request is mostly one that could be done, sometimes with something wrong.
func (d dice) request(state *told) api.Request {
	r := api.Request{Kind: 1 + d.pick(3)}
	given := uint64(1 + d.pick(9))
	if r.Kind != api.Swap {
		r.Name = d.name()
	}
	if amount := state.orders[r.Name]; r.Kind == api.Issue && amount > 0 {
		given = amount % (1 << 20)
	}
	if r.Kind != api.Issue {
		for range 1 + d.pick(3) {
			r.In = append(r.In, tokenOf(1<<d.pick(3), "r"+strconv.Itoa(d.pick(25))))
		}
		given, _ = sums(r)
	}
	if r.Kind == api.Pay {
		r.Amount = 1 + uint64(d.pick(int(given)))
		given -= r.Amount
	}
	parts, _ := keys.Split(given)
	for _, part := range parts {
		r.Out = append(r.Out, hiddenOf(part, "r"+strconv.Itoa(d.pick(3))))
	}
	if d.pick(4) == 0 {
		d.spoil(&r)
	}
	return r
}

func (d dice) spoil(r *api.Request) {
	other := d.pick(11)
	switch {
	case other == 0:
		r.Kind = d.pick(6) - 1
	case other == 1:
		r.Name = nameOf(d.pick(2) * (63 + d.pick(3)))
	case other == 2:
		r.Amount = noMoney()[d.pick(len(noMoney()))]
	case other == 3:
		r.Out = append(r.Out, hiddens("r", many(60+d.pick(8), 1)...)...)
	case other == 4:
		r.In = append(r.In, tokenOf(1, "r"+strconv.Itoa(d.pick(25))))
	case len(r.Out) > 0 && other == 5:
		r.Out[d.pick(len(r.Out))].Point = noPoints()[d.pick(len(noPoints()))]
	case len(r.Out) > 0 && other == 6:
		r.Out[d.pick(len(r.Out))].Amount = uint64(d.pick(10))
	case len(r.In) > 0 && other == 7:
		r.In[d.pick(len(r.In))].Amount = uint64(d.pick(10))
	case len(r.In) > 0 && other == 8:
		r.In[d.pick(len(r.In))].Keys = nil
	case len(r.In) > 0 && other == 9:
		r.In[d.pick(len(r.In))].Secret = some(d.pick(2)*65, "secret")
	case len(r.In) > 0:
		r.In = append(r.In, r.In[d.pick(len(r.In))])
	}
}

// A long run of calls, held against the document's words after each.
func TestRuns(t *testing.T) {
	seen := map[api.Errno]int{}
	for run := range 60 {
		d := dice{sha3.NewSHAKE128()}
		d.Write([]byte("run " + strconv.Itoa(run)))
		state := newTold(500 + d.pick(4000))
		m := begun(t, state.limit)
		for range 50 {
			m = step(t, m, state, d, seen)
			state.holds(t, "M1 to M5: run "+strconv.Itoa(run), m)
			if t.Failed() {
				return
			}
		}
	}
	for _, errno := range []api.Errno{api.OK, api.ErrLong, api.ErrForm, api.ErrPoint, api.ErrProof, api.ErrRange, api.ErrKeys, api.ErrSpent, api.ErrTwice, api.ErrSum, api.ErrState, api.ErrFull, api.ErrPower, api.ErrQuote} {
		if seen[errno] < 10 {
			t.Errorf("the runs have come upon %d only %d times", errno, seen[errno])
		}
	}
}

func step(t *testing.T, m *mint.Mint, state *told, d dice, seen map[api.Errno]int) *mint.Mint {
	t.Helper()
	switch d.pick(16) {
	case 0:
		n := d.pick(900) - 100
		m.Arm(n)
		state.arm(n)
	case 1, 2:
		m = opened(t, m.Disk(), state.limit)
		state.open()
	case 3, 4, 5:
		name, amount := d.name(), uint64(d.pick(12))
		errno := state.fund(name, amount)
		funds(t, "M2: a run", m, name, amount, errno)
		seen[errno]++
	case 6:
		if len(state.done) > 0 {
			r := state.done[d.pick(len(state.done))]
			does(t, "M3: a run, again", m, r, state.do(r))
		}
	default:
		r := d.request(state)
		errno := state.do(r)
		does(t, "M3: a run", m, r, errno)
		seen[errno]++
	}
	secret := "r" + strconv.Itoa(d.pick(25))
	if !state.off {
		spends(t, "M4: a run", m, secret, state.spent[secret])
	}
	return m
}
