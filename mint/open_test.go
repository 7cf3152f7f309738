package mint_test

import (
	"bytes"
	"encoding/hex"
	"math"
	"slices"
	"testing"

	"mintvault/api"
	"mintvault/keys"
	"mintvault/mint"
)

func noSeeds() [][]byte {
	return [][]byte{nil, {}, {0}, some(31, "seed"), some(33, "seed"), make([]byte, 31), make([]byte, 33), make([]byte, 64), some(5000, "seed")}
}

func limits() []int { return []int{64, 65, 1000, 1048575, 1048576} }

func noLimits() []int {
	return []int{63, 62, 1, 0, -1, -64, 1048577, 1048578, 1 << 31, math.MaxInt, math.MinInt}
}

// refusesDisk also holds that an error comes alone (E4).
func refusesDisk(t *testing.T, what string, seed []byte, limit int, disk []byte, want api.Errno) {
	t.Helper()
	if m, errno := mint.Open(seed, limit, disk); errno != want || m != nil {
		t.Errorf("%s: Open of %d bytes with room for %d: %d, want %d", what, len(disk), limit, errno, want)
	}
}

func TestNew(t *testing.T) {
	for _, limit := range limits() {
		stand{}.holds(t, "M1: New", begun(t, limit))
	}
	for _, limit := range append(limits(), noLimits()...) {
		for _, seed := range noSeeds() {
			if m, errno := mint.New(seed, limit); errno != api.ErrForm || m != nil {
				t.Errorf("M1: New of a seed of %d bytes, with room for %d: %d", len(seed), limit, errno)
			}
		}
	}
	for _, limit := range noLimits() {
		if m, errno := mint.New(seed(), limit); errno != api.ErrRange || m != nil {
			t.Errorf("M1: New with room for %d: %d", limit, errno)
		}
	}
}

func TestOpenIsRefused(t *testing.T) {
	m := ready(t)
	for _, disk := range [][]byte{nil, {}, m.Disk(), []byte("no frame"), make([]byte, 65), make([]byte, 1048577), diskOf([]byte("none"))} {
		for _, limit := range append(limits(), noLimits()...) {
			for _, seed := range noSeeds() {
				refusesDisk(t, "M1: no seed", seed, limit, disk, api.ErrForm)
			}
		}
		for _, limit := range noLimits() {
			refusesDisk(t, "M1: no limit", seed(), limit, disk, api.ErrRange)
		}
	}
	refusesDisk(t, "M1: a long disk", seed(), 64, make([]byte, 65), api.ErrLong)
	refusesDisk(t, "M1: a long disk", seed(), 1048576, make([]byte, 1048577), api.ErrLong)
	long := append(diskOf([]byte("no record")), make([]byte, 64)...)
	refusesDisk(t, "M1: a long disk, and no record", seed(), 64, long, api.ErrLong)
	refusesDisk(t, "M1: no record", seed(), 100, long, api.ErrForm)
}

func TestOpenOfNothing(t *testing.T) {
	for _, disk := range [][]byte{nil, {}, {0}, make([]byte, 11), []byte("no frame"), make([]byte, 64)} {
		for _, limit := range limits() {
			stand{}.holds(t, "M1: Open of no frames", opened(t, disk, limit))
		}
	}
}

func TestKeys(t *testing.T) {
	want, _ := keys.Set(seed(), 0)
	m := ready(t)
	for _, got := range []api.Keyset{begun(t, 64).Keys(), m.Keys(), opened(t, m.Disk(), room).Keys()} {
		if !bytes.Equal(got.Name, want.Name) || !slices.EqualFunc(got.Public, want.Public, bytes.Equal) {
			t.Errorf("M1: Keys: %x", got)
		}
	}
	nought, errno := mint.New(make([]byte, 32), room)
	if errno != api.OK || hex.EncodeToString(nought.Keys().Name) != "b05cf4948ad3ce72" {
		t.Errorf("M1: the keys of the document's example: %d", errno)
	}
}

// opensAs holds what stands behind Open of a disk with these records, and that the mint goes on.
func opensAs(t *testing.T, what string, records [][]byte, book api.Book, done ...api.Request) *mint.Mint {
	t.Helper()
	disk := diskOf(records...)
	m := opened(t, disk, room)
	stand{disk, book, done}.holds(t, what, m)
	return m
}

func TestOpen(t *testing.T) {
	records := [][]byte{moneyOf("order", 7), recordOf(issue()), recordOf(swap()), moneyOf("b", 5), recordOf(pay())}
	opensAs(t, "M1: money", records[:1], api.Book{Funded: 7})
	m := opensAs(t, "M1: all", records, api.Book{Funded: 12, Used: 7, Issued: 20, Spent: 16, Paid: 3, Count: 3}, issue(), swap(), pay())
	for _, r := range ordinary() {
		again(t, "M1: done ahead", m, r())
	}
	for _, secret := range []string{"s0", "s1", "s2", "p0", "p1"} {
		spends(t, "M1: spent ahead", m, secret, true)
	}
	refusesMoney(t, "M1: money that came ahead", m, "b", 5, api.ErrTwice)
	refuses(t, "M1: an order that was used ahead", m, changed(issue(), func(r *api.Request) { r.Out = nil }), api.ErrState)
	r := api.Request{Kind: api.Issue, Name: "b", Out: hiddens("b", 1, 4)}
	does(t, "M1: it goes on", m, r, api.OK)
	if !bytes.Equal(m.Disk(), diskOf(append(records, recordOf(r))...)) {
		t.Error("M1: what is done behind Open is not recorded behind the others")
	}
}

// Of what lies behind the last whole frame nothing is done.
func TestOpenOfTornDisks(t *testing.T) {
	records := [][]byte{moneyOf("order", 7), recordOf(issue())}
	disk := diskOf(records...)
	first := len(diskOf(records[:1]...))
	for n := range len(disk) {
		want := stand{}
		if n >= first {
			want = stand{disk[:first], api.Book{Funded: 7}, nil}
		}
		m := opened(t, disk[:n], room)
		want.holds(t, "M1: a torn disk", m)
		if t.Failed() {
			return
		}
	}
	torn := append(bytes.Clone(disk[:first]), frame(2, recordOf(issue()))...)
	stand{disk[:first], api.Book{Funded: 7}, nil}.holds(t, "M1: a frame that is not right", opened(t, torn, room))
}

// noRecords are bytes that are not those of a request, nor of money.
func noRecords() [][]byte {
	r := recordOf(api.Request{Kind: api.Swap, In: tokens("n", 1), Out: hiddens("n", 1)})
	name, in, out := bytesOf(nil), listOf(listOf(uintOf(1), bytesOf(setName()), bytesOf([]byte("n0")), bytesOf(tokens("n", 1)[0].Sign))), listOf(listOf(uintOf(1), bytesOf(pointOf("n0"))))
	text := append([]byte{0x61}, 'c')
	two := uintOf(2)
	return [][]byte{
		nil, {0}, {0x80}, {0x40}, {0xf6}, {255}, []byte("text"), r[:len(r)-1], append(bytes.Clone(r), 0), append([]byte{0x81}, r...), slices.Concat(r, r),
		listOf(two, name, uintOf(0), in), listOf(two, name, uintOf(0), in, out, listOf()), listOf(two, name, uintOf(0), out, in), listOf(name, two, uintOf(0), in, out),
		listOf([]byte{0x21}, name, uintOf(0), in, out), listOf(bytesOf([]byte{2}), name, uintOf(0), in, out), listOf(two, []byte{0x60}, uintOf(0), in, out), listOf(two, listOf(), uintOf(0), in, out),
		listOf(two, name, []byte{0x20}, in, out), listOf(two, name, bytesOf(nil), in, out), listOf(two, name, []byte{0xf6}, in, out),
		listOf(two, name, uintOf(0), in, listOf(listOf(uintOf(1)))), listOf(two, name, uintOf(0), in, listOf(listOf(uintOf(1), bytesOf(pointOf("n0")), bytesOf(nil)))),
		listOf(two, name, uintOf(0), in, listOf(uintOf(1), bytesOf(pointOf("n0")))), listOf(two, name, uintOf(0), in, listOf(listOf(bytesOf(pointOf("n0")), uintOf(1)))),
		listOf(two, name, uintOf(0), in[1:], out), listOf(two, name, uintOf(0), listOf(in), out), listOf(two, name, uintOf(0), []byte{0xa0}, out), listOf(two, name, uintOf(0), bytesOf(nil), out),
		append([]byte{0x18, 0x85}, r[1:]...), append([]byte{0x98, 5}, r[1:]...), append([]byte{0x9f}, append(bytes.Clone(r[1:]), 255)...), append([]byte{0x85, 0x18, 2}, r[2:]...), append([]byte{0xa5}, r[1:]...),
		// Of money:
		listOf(uintOf(0), text, uintOf(5), listOf(), listOf()), listOf(uintOf(0), bytesOf([]byte("c")), uintOf(5)), listOf(uintOf(0), bytesOf([]byte("c")), uintOf(5), listOf()),
		listOf(uintOf(0), bytesOf([]byte("c")), uintOf(5), listOf(), listOf(), listOf()), listOf(uintOf(0), bytesOf([]byte("c")), uintOf(5), in, listOf()), listOf(uintOf(0), bytesOf([]byte("c")), uintOf(5), listOf(), out),
		listOf(uintOf(0), bytesOf([]byte("c")), uintOf(5), listOf(listOf()), listOf()), listOf(uintOf(0), bytesOf([]byte("c")), uintOf(5), []byte{0xa0}, []byte{0xa0}), listOf(uintOf(0), bytesOf([]byte("c")), bytesOf([]byte{5}), listOf(), listOf()),
		listOf([]byte{0x20}, bytesOf([]byte("c")), uintOf(5), listOf(), listOf()), listOf([]byte{0xf4}, bytesOf([]byte("c")), uintOf(5), listOf(), listOf()), listOf(bytesOf(nil), bytesOf([]byte("c")), uintOf(5), listOf(), listOf()),
		listOf(uintOf(0), bytesOf([]byte("c")), []byte{0x18, 5}, listOf(), listOf()), make([]byte, 16384), bytes.Repeat([]byte{0x80}, 4000), append(head(4, 4000), bytes.Repeat([]byte{0x80}, 4000)...),
		listOf(two, name, uintOf(0), append(head(4, 4000), bytes.Repeat([]byte{0x80}, 4000)...), out),
	}
}

// refusesRecord holds that a disk on which a record lies behind others is none; without it, it is one.
func refusesRecord(t *testing.T, what string, ahead [][]byte, record []byte) {
	t.Helper()
	opened(t, diskOf(ahead...), room)
	all := append(slices.Clip(ahead), record)
	refusesDisk(t, what, seed(), room, diskOf(all...), api.ErrForm)
	refusesDisk(t, what+", and others behind it", seed(), room, diskOf(append(all, moneyOf("more", 1))...), api.ErrForm)
}

func TestOpenOfNoRecords(t *testing.T) {
	for _, record := range noRecords() {
		refusesRecord(t, "M1: no record", nil, record)
		refusesRecord(t, "M1: no record", [][]byte{moneyOf("order", 7), recordOf(issue())}, record)
	}
	good := api.Request{Kind: api.Swap, In: tokens("n", 1), Out: hiddens("n", 1)}
	opensAs(t, "M1: a record", [][]byte{recordOf(good)}, api.Book{Issued: 1, Spent: 1, Count: 1}, good)
	opensAs(t, "M1: a record of money", [][]byte{moneyOf("c", 5)}, api.Book{Funded: 5})
}

func TestOpenOfWrongMoney(t *testing.T) {
	refusesRecord(t, "M1: money twice", [][]byte{moneyOf("a", 5)}, moneyOf("a", 5))
	refusesRecord(t, "M1: money twice, of another amount", [][]byte{moneyOf("a", 5), moneyOf("b", 5)}, moneyOf("a", 6))
	for _, n := range []int{0, 65, 1000} {
		refusesRecord(t, "M1: money without a name", nil, moneyOf(nameOf(n), 5))
	}
	for _, amount := range noMoney() {
		refusesRecord(t, "M1: money of no amount", nil, moneyOf("a", amount))
	}
	opensAs(t, "M1: money at its edges", [][]byte{moneyOf(nameOf(64), 1<<40), moneyOf("a", 1)}, api.Book{Funded: 1<<40 + 1})
}

func TestOpenOfUnformedRequests(t *testing.T) {
	ahead := [][]byte{moneyOf("order", 7)}
	for _, f := range takingFaults() {
		for _, base := range []func() api.Request{taking(api.Swap), taking(api.Pay)} {
			r := changed(base(), f.spoil)
			if f.errno != api.ErrSpent {
				refusesRecord(t, "M1: a request that is refused", ahead, recordOf(r))
			}
		}
	}
	for _, kind := range []int{4, 5, -1, 256 + 1, math.MaxInt, math.MinInt} {
		refusesRecord(t, "M1: a kind that is none", ahead, recordOf(changed(swap(), func(r *api.Request) { r.Kind = kind })))
	}
	for _, bad := range spoiled(swap().In[0]) {
		refusesRecord(t, "M1: a token that is not Valid", ahead, recordOf(changed(swap(), func(r *api.Request) { r.In[0] = bad })))
	}
	for _, point := range noPoints() {
		refusesRecord(t, "M1: no point", ahead, recordOf(changed(issue(), func(r *api.Request) { r.Out[0].Point = point })))
	}
}

func TestOpenOfRefusedRequests(t *testing.T) {
	order, used := moneyOf("order", 7), recordOf(issue())
	refusesRecord(t, "M1: no order", nil, recordOf(issue()))
	refusesRecord(t, "M1: an order of another name", [][]byte{moneyOf("orders", 7)}, recordOf(issue()))
	refusesDisk(t, "M1: an order that comes behind", seed(), room, diskOf(used, order), api.ErrForm)
	other := changed(issue(), func(r *api.Request) { slices.Reverse(r.Out) })
	refusesRecord(t, "M1: an order that was used", [][]byte{order, used}, recordOf(other))
	for _, amount := range []uint64{1, 6, 8, 1 << 40} {
		refusesRecord(t, "M1: another sum than the order's", [][]byte{moneyOf("order", amount)}, recordOf(issue()))
	}
	for _, base := range []func() api.Request{swap, pay} {
		ahead := [][]byte{recordOf(base())}
		refusesRecord(t, "M1: secrets that were spent", ahead, recordOf(changed(base(), func(r *api.Request) { slices.Reverse(r.Out) })))
		one := tokenOf(1, string(base().In[1].Secret))
		refusesRecord(t, "M1: a secret that was spent", ahead, recordOf(api.Request{Kind: api.Swap, In: []api.Token{tokenOf(1, "new"), one}, Out: hiddens("x", 2)}))
		refusesRecord(t, "M1: sums that do not agree", nil, recordOf(changed(base(), func(r *api.Request) { r.Out = r.Out[1:] })))
		refusesRecord(t, "M1: sums that do not agree", nil, recordOf(changed(base(), func(r *api.Request) { r.Out[0].Amount *= 2 })))
	}
	refusesRecord(t, "M1: paid too much", nil, recordOf(changed(pay(), func(r *api.Request) { r.Amount = 4 })))
	disk := diskOf(order, used, recordOf(swap()))
	refusesDisk(t, "M1: the disk of another mint", some(32, "other seed"), room, disk, api.ErrForm)
}

// A request that came twice was done before, the second time: Do answers OK, and nothing changes.
func TestOpenOfRequestsThatCameTwice(t *testing.T) {
	a, b, c := recordOf(issue()), recordOf(swap()), recordOf(pay())
	records := [][]byte{moneyOf("order", 7), a, a, b, a, c, b, c, c}
	m := opensAs(t, "M1: requests that came twice", records, api.Book{Funded: 7, Used: 7, Issued: 20, Spent: 16, Paid: 3, Count: 3}, issue(), swap(), pay())
	for _, r := range ordinary() {
		again(t, "M1: done ahead, twice", m, r())
	}
	r := api.Request{Kind: api.Swap, In: tokens("z", 1), Out: hiddens("z", 1)}
	does(t, "M1: it goes on", m, r, api.OK)
	opensAs(t, "M1: opened again", append(records, recordOf(r)), api.Book{Funded: 7, Used: 7, Issued: 21, Spent: 17, Paid: 3, Count: 4}, issue(), swap(), pay(), r)
}
