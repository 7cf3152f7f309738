package wallet_test

import (
	"bytes"
	"math"
	"slices"
	"testing"

	"mintvault/api"
	"mintvault/group"
	"mintvault/wallet"
)

// refusesDisk holds that a wallet is not given, and why.
func refusesDisk(t *testing.T, what string, seed []byte, limit int, keys api.Keyset, disk []byte, want api.Errno) {
	t.Helper()
	if w, errno := wallet.Open(seed, limit, keys, disk); errno != want || w != nil {
		t.Errorf("%s: Open with room for %d: %v, %d, want %d", what, limit, w != nil, errno, want)
	}
}

// refusesNew holds it of New, and of Open with disks that are whatever they are.
func refusesNew(t *testing.T, what string, seed []byte, limit int, keys api.Keyset, want api.Errno) {
	t.Helper()
	if w, errno := wallet.New(seed, limit, keys); errno != want || w != nil {
		t.Errorf("%s: New with room for %d: %v, %d, want %d", what, limit, w != nil, errno, want)
	}
	for _, disk := range [][]byte{nil, {}, diskOf(callOf(1, "a", 1)), diskOf([]byte("none")), make([]byte, 50)} {
		refusesDisk(t, what, seed, limit, keys, disk, want)
	}
}

// noSets are keys that no mint has.
func noSets() []api.Keyset {
	change := func(f func(*api.Keyset)) api.Keyset {
		k := set()
		f(&k)
		return k
	}
	all := []api.Keyset{
		{}, {Name: set().Name}, {Public: set().Public},
		change(func(k *api.Keyset) { k.Name = nil }), change(func(k *api.Keyset) { k.Name = k.Name[:7] }), change(func(k *api.Keyset) { k.Name = append(k.Name, 0) }), change(func(k *api.Keyset) { k.Name = make([]byte, 32) }),
		change(func(k *api.Keyset) { k.Public = [][]byte{} }), change(func(k *api.Keyset) { k.Public = k.Public[:1] }), change(func(k *api.Keyset) { k.Public = k.Public[:19] }), change(func(k *api.Keyset) { k.Public = append(k.Public, group.Base()) }), change(func(k *api.Keyset) { k.Public = slices.Repeat(k.Public, 2) }),
	}
	for place := range 20 {
		for _, b := range noPoints() {
			all = append(all, change(func(k *api.Keyset) { k.Public[place] = b }))
		}
	}
	return all
}

func TestNewWithWrongInputs(t *testing.T) {
	for _, n := range []int{0, 1, 16, 31, 33, 64} {
		refusesNew(t, "V1: no seed", make([]byte, n), room, set(), api.ErrForm)
		refusesNew(t, "V1: no seed, no limit", make([]byte, n), 0, set(), api.ErrForm)
	}
	refusesNew(t, "V1: a seed that is nil", nil, room, set(), api.ErrForm)
	for _, k := range noSets() {
		refusesNew(t, "V1: no keys", seed(), room, k, api.ErrForm)
	}
	refusesNew(t, "V1: no keys, no limit", seed(), 0, api.Keyset{}, api.ErrForm)
	for _, limit := range []int{math.MinInt, -1, 0, 1, 63, 1<<20 + 1, math.MaxInt} {
		refusesNew(t, "V1: no limit", seed(), limit, set(), api.ErrRange)
	}
}

func TestNew(t *testing.T) {
	for _, limit := range []int{64, 65, 1000, 1 << 20} {
		begun(t, limit).holds("V1: a new wallet")
		p := &twin{T: t, w: opened(t, nil, limit), d: &told{limit: limit}}
		p.holds("V1: Open of a disk that is nil")
		p = &twin{T: t, w: opened(t, []byte{}, limit), d: &told{limit: limit}}
		p.holds("V1: Open of an empty disk")
		p = &twin{T: t, w: opened(t, some(40, "nothing"), limit), d: &told{limit: limit}}
		p.holds("V1: Open of a disk on which no frame lies")
	}
	k := set()
	k.Name = make([]byte, 8)
	for i := range k.Public {
		k.Public[i] = group.Base()
	}
	if w, errno := wallet.New(make([]byte, 32), room, k); errno != api.OK || w == nil {
		t.Errorf("V1: New with keys that are the same: %d", errno)
	}
}

// A disk may fill its room, and may not be longer.
func TestOpenAtTheLimit(t *testing.T) {
	p := with(t, 7)
	n := len(p.d.disk)
	p.again(n)
	p.again(n + 1)
	refusesDisk(t, "V1: a disk that is too long", seed(), n-1, set(), p.d.disk, api.ErrLong)
	refusesDisk(t, "V1: a disk that is too long", seed(), 64, set(), p.d.disk, api.ErrLong)
	refusesDisk(t, "V1: a disk that is too long, and none of a wallet", seed(), 64, set(), diskOf(make([]byte, 100)), api.ErrLong)
	refusesDisk(t, "V1: a disk that is too long, no limit", seed(), 63, set(), p.d.disk, api.ErrRange)
	refusesDisk(t, "V1: a disk that is too long, no seed", nil, 64, set(), p.d.disk, api.ErrForm)
	refusesDisk(t, "V1: a disk that is too long, no keys", seed(), 64, api.Keyset{}, p.d.disk, api.ErrForm)
}

// history has calls of all kinds.
func history(t *testing.T) *twin {
	t.Helper()
	p := with(t, 11, 4)
	p.send(6, api.OK)
	p.pay("shop", 3, api.OK)
	p.served()
	p.receive(textOf(foreign("h", 1, 4, 1)), api.OK)
	p.refused(api.OK)
	p.receive(textOf(foreign("h", 4, 2)), api.OK)
	p.served()
	p.change(5, api.OK)
	p.refused(api.OK)
	p.change(6, api.OK)
	p.send(2, api.OK)
	p.served()
	p.pay("shop", 7, api.OK)
	return p
}

// Open has all that was recorded, and goes on.
func TestOpen(t *testing.T) {
	p := history(t)
	seen := map[byte]int{}
	for _, r := range p.d.records {
		seen[r[1]]++
	}
	if len(seen) != 7 {
		t.Fatalf("calls of %d kinds only", len(seen))
	}
	for i := range p.d.records {
		opened(t, diskOf(p.d.records[:i]...), room)
	}
	q := p.again(room)
	q.served()
	q.ask("more", 5, api.OK)
	q.again(room).refused(api.OK)
}

func TestOpenOfTornDisks(t *testing.T) {
	p := with(t, 2)
	p.change(1, api.OK)
	whole := []int{0}
	for i := range p.d.records {
		whole = append(whole, len(diskOf(p.d.records[:i+1]...)))
	}
	tokens := [][]api.Token{nil, nil, {tokenOf(0, 2)}, nil}
	for n := range len(p.d.disk) {
		i, _ := slices.BinarySearch(whole, n+1)
		w := opened(t, p.d.disk[:n], room)
		_, open := w.Asked()
		if !bytes.Equal(w.Disk(), p.d.disk[:whole[i-1]]) || !slices.EqualFunc(w.Tokens(), tokens[i-1], sameToken) || open != (i-1 == 1) {
			t.Fatalf("V1: Open of %d bytes: %d lie there, tokens %+v, open: %v", n, len(w.Disk()), w.Tokens(), open)
		}
	}
	torn := append(bytes.Clone(p.d.disk[:whole[2]]), frame(3, p.d.records[2])...)
	if w := opened(t, torn, room); w.Balance() != 2 || len(w.Disk()) != whole[2] {
		t.Errorf("V1: a frame that is not right: %d bytes", len(w.Disk()))
	}
}

// refusesRecord holds that a disk on which a record lies behind others is none; without it, it is one.
func refusesRecord(t *testing.T, what string, ahead [][]byte, record []byte) {
	t.Helper()
	opened(t, diskOf(ahead...), room)
	all := append(slices.Clip(ahead), record)
	refusesDisk(t, what, seed(), room, set(), diskOf(all...), api.ErrForm)
	refusesDisk(t, what+", and others behind it", seed(), room, set(), diskOf(append(all, callOf(7, "", 0), callOf(1, "a", 1))...), api.ErrForm)
}

// noRecords are bytes that are not those of a call.
func noRecords() [][]byte {
	r := callOf(1, "a", 1)
	one, name, list := uintOf(1), bytesOf([]byte("a")), listOf()
	s := signedOf(hiddenOf(0, 1))
	entry := listOf(uintOf(s.Amount), bytesOf(s.Point), bytesOf(s.Sign), bytesOf(s.Proof))
	return [][]byte{
		nil, {0}, {0x80}, {0x40}, {0xf6}, {255}, []byte("text"), r[:len(r)-1], append(bytes.Clone(r), 0), append([]byte{0x81}, r...), slices.Concat(r, r),
		listOf(one, name, one), listOf(one, name, one, list, list), listOf(name, one, one, list), listOf(one, one, name, list), listOf(list, name, one, one), listOf(),
		listOf([]byte{0x20}, name, one, list), listOf(bytesOf([]byte{1}), name, one, list), listOf(one, []byte{0x61, 'a'}, one, list), listOf(one, listOf(name), one, list), listOf(one, one, one, list),
		listOf(one, name, []byte{0x21}, list), listOf(one, name, bytesOf([]byte{1}), list), listOf(one, name, []byte{0xf5}, list), listOf(one, name, one, []byte{0xa0}), listOf(one, name, one, bytesOf(nil)), listOf(one, name, one, uintOf(0)), listOf(one, name, one, []byte{0xf6}),
		append([]byte{0x98, 4}, r[1:]...), append([]byte{0x9f}, append(bytes.Clone(r[1:]), 255)...), append([]byte{0x84, 0x18, 1}, r[2:]...), append([]byte{0xa2}, r[1:]...),
		listOf(one, append([]byte{0x58, 1}, 'a'), one, list), listOf(one, name, []byte{0x18, 1}, list), listOf(one, name, one, []byte{0x98, 0}),
		// What calls of the kind do not say:
		callOf(1, "a", 1, s), callOf(1, "a", 1, api.Signed{}), listOf(one, name, one, listOf(list)), listOf(one, name, one, listOf(uintOf(0))), listOf(one, name, one, listOf(entry[1:])),
		callOf(2, textOf(foreign("n", 1)), 1), callOf(2, textOf(foreign("n", 1)), 0, s), callOf(2, textOf(foreign("n", 1)), 0, api.Signed{}),
		make([]byte, 16384), bytes.Repeat([]byte{0x80}, 4000), listOf(one, name, one, append(head(4, 4000), bytes.Repeat([]byte{0x80}, 4000)...)),
	}
}

func TestOpenOfNoRecords(t *testing.T) {
	for _, record := range noRecords() {
		refusesRecord(t, "V1: no record", nil, record)
		refusesRecord(t, "V1: no record", with(t, 2).d.records, record)
	}
	for _, number := range []uint64{0, 8, 9, 24, 255, 256, 257, 1<<32 + 1, 1<<63 + 1, math.MaxUint64} {
		refusesRecord(t, "V1: no number", nil, callOf(number, "", 0))
		refusesRecord(t, "V1: no number", nil, callOf(number, "a", 1))
	}
}

// What calls of a kind do not say may not stand in their records, where the call itself would be answered OK.
func TestOpenOfRecordsThatSayMore(t *testing.T) {
	p := with(t, 3)
	s := signedOf(hiddenOf(0, 1))
	q := p.again(room)
	q.ask("a", 1, api.OK)
	l := answerTo(*q.d.open)
	refusesRecord(t, "V1: Pay", p.d.records, callOf(3, "a", 1, s))
	refusesRecord(t, "V1: Change", p.d.records, callOf(4, "a", 1))
	refusesRecord(t, "V1: Change", p.d.records, callOf(4, "", 1, s))
	refusesRecord(t, "V1: Send", p.d.records, callOf(5, "a", 1))
	refusesRecord(t, "V1: Send", p.d.records, callOf(5, "", 1, s))
	refusesRecord(t, "V1: Answer", q.d.records, callOf(6, "a", 0, l...))
	refusesRecord(t, "V1: Answer", q.d.records, callOf(6, "", 1, l...))
	refusesRecord(t, "V1: Refused", q.d.records, callOf(7, "a", 0))
	refusesRecord(t, "V1: Refused", q.d.records, callOf(7, "", 1))
	refusesRecord(t, "V1: Refused", q.d.records, callOf(7, "", 0, l...))
	entry := func(fields ...[]byte) []byte {
		return listOf(uintOf(6), bytesOf(nil), uintOf(0), listOf(listOf(fields...)))
	}
	amount, point, sign, proof := uintOf(l[0].Amount), bytesOf(l[0].Point), bytesOf(l[0].Sign), bytesOf(l[0].Proof)
	opened(t, diskOf(append(q.d.records, entry(amount, point, sign, proof))...), room)
	refusesRecord(t, "V1: an entry that says more", q.d.records, entry(amount, point, sign, proof, uintOf(0)))
	refusesRecord(t, "V1: an entry that says less", q.d.records, entry(amount, point, sign))
	refusesRecord(t, "V1: an entry in another order", q.d.records, entry(amount, point, proof, sign))
	refusesRecord(t, "V1: an entry in another order", q.d.records, entry(point, amount, sign, proof))
	refusesRecord(t, "V1: an entry that is written otherwise", q.d.records, entry([]byte{0x18, 1}, point, sign, proof))
}

// Calls that would not be answered OK.
func TestOpenOfRefusedCalls(t *testing.T) {
	none, idle := [][]byte(nil), with(t, 5).d.records
	q := with(t, 5)
	q.change(1, api.OK)
	open := q.d.records
	for _, x := range []struct {
		ahead  [][]byte
		record []byte
	}{
		{none, callOf(1, "", 1)}, {none, callOf(1, nameOf(65), 1)}, {none, callOf(1, "a", 0)}, {none, callOf(1, "a", 64*largest+1)}, {none, callOf(1, "a", math.MaxUint64)}, {open, callOf(1, "a", 1)},
		{none, callOf(2, "", 0)}, {none, callOf(2, "mv1", 0)}, {none, callOf(2, spoilt(func(k *api.Token) { k.Keys[0] ^= 1 })[1], 0)}, {none, callOf(2, spoilt(func(k *api.Token) { k.Amount = 3 })[1], 0)}, {none, callOf(2, textOf(append(foreign("n", 1), foreign("n", 2)...)), 0)}, {open, callOf(2, textOf(foreign("n", 1)), 0)},
		{idle, callOf(3, "", 1)}, {idle, callOf(3, nameOf(65), 1)}, {idle, callOf(3, "a", 0)}, {idle, callOf(3, "a", 1<<40+1)}, {idle, callOf(3, "a", 6)}, {none, callOf(3, "a", 1)}, {open, callOf(3, "a", 1)},
		{idle, callOf(4, "", 0)}, {idle, callOf(4, "", 6)}, {none, callOf(4, "", 1)}, {open, callOf(4, "", 1)},
		{idle, callOf(5, "", 0)}, {idle, callOf(5, "", 6)}, {idle, callOf(5, "", 3)}, {none, callOf(5, "", 1)}, {open, callOf(5, "", 1)},
		{idle, callOf(6, "", 0)}, {none, callOf(6, "", 0)}, {open, callOf(6, "", 0)}, {idle, idle[1]}, {none, callOf(7, "", 0)}, {idle, callOf(7, "", 0)},
	} {
		refusesRecord(t, "V1: a call that would be refused", x.ahead, x.record)
	}
	for _, l := range wrongLists(*q.d.open) {
		refusesRecord(t, "V1: an Answer that would be refused", open, callOf(6, "", 0, l...))
	}
	refusesDisk(t, "V1: the disk of another wallet", some(32, "another"), room, set(), diskOf(idle...), api.ErrForm)
	other := set()
	other.Public[0] = group.Base()
	refusesDisk(t, "V1: with another key", seed(), room, other, diskOf(idle...), api.ErrForm)
	many := with(t, 64*largest, largest).d.records
	refusesRecord(t, "V1: too many tokens", many, callOf(3, "a", 65*largest))
	refusesRecord(t, "V1: too many tokens", many, callOf(4, "", 65*largest))
	refusesRecord(t, "V1: too many tokens", many, callOf(5, "", 65*largest))
	refusesRecord(t, "V1: too many outputs", many, callOf(4, "", 45*largest+1))
}

// The room of the wallet is that of its disk: the next call may not have any.
func TestFull(t *testing.T) {
	p := with(t, 7)
	text := textOf(foreign("f", 1))
	open := p.again(room)
	open.change(5, api.OK)
	for _, x := range []struct {
		p      *twin
		record []byte
		call   func(*twin, api.Errno)
	}{
		{p, callOf(1, "a", 1), func(p *twin, e api.Errno) { p.ask("a", 1, e) }},
		{p, callOf(2, text, 0), func(p *twin, e api.Errno) { p.receive(text, e) }},
		{p, callOf(3, "a", 2), func(p *twin, e api.Errno) { p.pay("a", 2, e) }},
		{p, callOf(4, "", 5), func(p *twin, e api.Errno) { p.change(5, e) }},
		{p, callOf(5, "", 5), func(p *twin, e api.Errno) { p.send(5, e) }},
		{open, callOf(6, "", 0, answerTo(*open.d.open)...), func(p *twin, e api.Errno) { p.answer(answerTo(*p.d.open), e) }},
		{open, callOf(7, "", 0), func(p *twin, e api.Errno) { p.refused(e) }},
	} {
		n := len(x.p.d.disk) + len(x.record) + around
		for _, limit := range []int{n - len(x.record) - around, n - around, n - 2, n - 1} {
			q := x.p.again(limit)
			x.call(q, api.ErrFull)
			x.call(q, api.ErrFull)
			q.arm(0)
			x.call(q, api.ErrFull)
			x.call(q.again(n), api.OK)
		}
		x.call(x.p.again(n), api.OK)
		x.call(x.p.again(n+1), api.OK)
	}
}
