package mint_test

import (
	"bytes"
	"slices"
	"testing"

	"mintvault/api"
	"mintvault/mint"
)

func tells(t *testing.T, what string, m *mint.Mint, secrets [][]byte, want []bool) {
	t.Helper()
	got, errno := m.Spent(secrets)
	if errno != api.OK || !slices.Equal(got, want) {
		t.Errorf("%s: M4: Spent: %v, %d, want %v", what, got, errno, want)
	}
}

func TestSpent(t *testing.T) {
	m := begun(t, room)
	tells(t, "a new mint", m, nil, nil)
	tells(t, "a new mint", m, [][]byte{}, nil)
	tells(t, "a new mint", m, [][]byte{nil, {}, []byte("o0")}, []bool{false, false, false})
	does(t, "M3", m, api.Request{Kind: api.Swap, In: tokens("o", many(64, 1)...), Out: hiddens("o", 64)}, api.OK)
	var all [][]byte
	for _, token := range tokens("o", many(64, 1)...) {
		all = append(all, token.Secret)
	}
	for _, kept := range []*mint.Mint{m, opened(t, m.Disk(), room)} {
		tells(t, "64 that are spent", kept, all, slices.Repeat([]bool{true}, 64))
		tells(t, "one", kept, all[5:6], []bool{true})
		tells(t, "one twice", kept, [][]byte{all[1], []byte("x"), all[1], []byte("x")}, []bool{true, false, true, false})
		tells(t, "bytes that are no secret", kept, [][]byte{nil, {}, some(65, "x"), make([]byte, 100000), all[63]}, []bool{false, false, false, false, true})
		tells(t, "nearly the same", kept, [][]byte{[]byte("o"), []byte("o0\x00"), []byte("O0"), []byte("o64")}, make([]bool, 4))
		tells(t, "what has just been signed", kept, [][]byte{pointOf("o0")}, []bool{false})
		for _, n := range []int{65, 66, 1000} {
			if got, errno := kept.Spent(make([][]byte, n)); errno != api.ErrLong || len(got) != 0 {
				t.Errorf("M4: Spent of %d: %v, %d", n, got, errno)
			}
		}
	}
}

// Secrets of what is refused are not spent, those of what is done are.
func TestSpentBehindRequests(t *testing.T) {
	m := ready(t)
	for _, want := range []bool{false, true} {
		for _, r := range []api.Request{swap(), pay()} {
			for _, token := range r.In {
				spends(t, "M3", m, string(token.Secret), want)
			}
			does(t, "M3: refused", m, changed(r, func(r *api.Request) { r.Out = nil }), []api.Errno{api.ErrSum, api.ErrSpent}[number(want)])
		}
		does(t, "M3: swap", m, swap(), api.OK)
		does(t, "M3: pay", m, pay(), api.OK)
	}
}

func number(b bool) int {
	if b {
		return 1
	}
	return 0
}

// The book's fields, behind requests that differ in all amounts.
func TestBook(t *testing.T) {
	m := begun(t, room)
	book := api.Book{}
	at := func(what string) {
		t.Helper()
		if got := m.Book(); got != book {
			t.Errorf("M4: %s: %+v, want %+v", what, got, book)
		}
	}
	at("a new mint")
	for i, amount := range []uint64{7, 1 << 40, 1 << 40, 2} {
		funds(t, "M2", m, "order"[:5-i], amount, api.OK)
		book.Funded += amount
		at("money")
	}
	does(t, "M3", m, issue(), api.OK)
	book.Used, book.Issued, book.Count = 7, 7, 1
	at("Issue")
	does(t, "M3", m, api.Request{Kind: api.Pay, Name: "x", Amount: 1000, In: tokens("b", 1024, 8), Out: hiddens("b", 32)}, api.OK)
	book.Spent, book.Issued, book.Paid, book.Count = 1032, 39, 1000, 2
	at("Pay")
	does(t, "M3", m, api.Request{Kind: api.Swap, In: tokens("c", 1<<19, 1), Out: hiddens("b", 1, 1<<18, 1<<18)}, api.OK)
	book.Spent, book.Issued, book.Count = 1032+1<<19+1, 39+1<<19+1, 3
	at("Swap")
	does(t, "M3", m, api.Request{Kind: api.Issue, Name: "or", Out: hiddens("b", 1, 1)}, api.OK)
	book.Used, book.Issued, book.Count = 9, book.Issued+2, 4
	at("Issue")
	does(t, "M3: again", m, issue(), api.OK)
	at("a request that was done before")
	if opened(t, m.Disk(), room).Book() != book {
		t.Errorf("M1: the book behind Open: %+v", opened(t, m.Disk(), room).Book())
	}
}

// Done has all that a request says, in the order in which they were done.
func TestDone(t *testing.T) {
	m := ready(t)
	funds(t, "M2", m, nameOf(64), 1, api.OK)
	all := []api.Request{pay(), swap(), {Kind: api.Issue, Name: nameOf(64), Out: hiddens("d", 1)}, issue(), {Kind: api.Pay, Name: nameOf(1), Amount: 2, In: tokens("d", 2)}}
	for i, r := range all {
		does(t, "M3", m, r, api.OK)
		does(t, "M3: again", m, all[0], api.OK)
		for _, kept := range []*mint.Mint{m, opened(t, m.Disk(), room)} {
			if got := kept.Done(); !slices.EqualFunc(got, all[:i+1], sameRequest) {
				t.Errorf("M4: Done: %+v, want %+v", got, all[:i+1])
			}
		}
	}
}

// The disk is that of a store with just the records, whatever was refused between.
func TestDisk(t *testing.T) {
	m := ready(t)
	does(t, "M3", m, swap(), api.OK)
	does(t, "M3: refused", m, changed(pay(), func(r *api.Request) { r.Out = nil }), api.ErrSum)
	funds(t, "M2: refused", m, "order", 7, api.ErrTwice)
	does(t, "M3: again", m, swap(), api.OK)
	does(t, "M3", m, pay(), api.OK)
	if !bytes.Equal(m.Disk(), diskOf(moneyOf("order", 7), recordOf(swap()), recordOf(pay()))) {
		t.Errorf("M1: Disk: %x", m.Disk())
	}
}
