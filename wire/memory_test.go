package wire_test

import (
	"bytes"
	"testing"

	"mintvault/api"
	"mintvault/wire"
)

// guardedItem is an item whose bytes are guarded and whose lists have something in their spare room.
type guardedItem struct {
	i     api.Item
	data  []guarded
	lists [][]api.Item
}

func guardItem(i api.Item) guardedItem {
	var g guardedItem
	g.i = g.copyOf(i)
	return g
}

func (g *guardedItem) copyOf(i api.Item) api.Item {
	if i.Data != nil {
		d := guard(i.Data)
		g.data, i.Data = append(g.data, d), d.b
	}
	if i.List != nil {
		var l []api.Item
		for _, each := range i.List {
			l = append(l, g.copyOf(each))
		}
		l = append(l, number(77), number(77))
		g.lists, i.List = append(g.lists, l), l[:len(l)-2]
	}
	return i
}

func (g guardedItem) check(t *testing.T, want api.Item) {
	t.Helper()
	for _, d := range g.data {
		d.check(t, "Print")
	}
	for _, l := range g.lists {
		if spare := l[len(l)-2:]; !same(spare[0], number(77)) || !same(spare[1], number(77)) {
			t.Error("E2: Print: the spare room of a list has changed")
		}
	}
	if !same(g.i, want) {
		t.Error("E2: Print: an item has changed")
	}
}

func TestPrintMemory(t *testing.T) {
	for _, i := range append(samples(), rising()...) {
		g := guardItem(i)
		first, _ := wire.Print(g.i)
		want := bytes.Clone(first)
		second, errno := wire.Print(g.i)
		spoil(first)
		g.check(t, i)
		third, _ := wire.Print(g.i)
		if errno != api.OK || !bytes.Equal(second, want) || !bytes.Equal(third, want) {
			t.Errorf("E2: Print: answers share memory: %x, %x, %x", want, second, third)
		}
	}
	bad := array(number(1), pairs(number(2), data("a"), number(1), data("b")))
	g := guardItem(bad)
	wire.Print(g.i)
	g.check(t, bad)
}

// spoil writes over an answer and all of its spare room.
func spoil(b []byte) {
	b = b[:cap(b)]
	for i := range b {
		b[i] ^= 0xa5
	}
}

// spoilItem writes over all of an answer, its spare room included.
func spoilItem(i api.Item) {
	spoil(i.Data)
	for _, each := range i.List {
		spoilItem(each)
	}
	all := i.List[:cap(i.List)]
	for n := range all {
		all[n] = text("spoiled")
	}
}

func TestParseMemory(t *testing.T) {
	for _, i := range append(samples(), rising()...) {
		g := guard(bytesOf(i))
		first, _ := wire.Parse(g.b)
		second, errno := wire.Parse(g.b)
		spoilItem(first)
		g.check(t, "Parse")
		third, _ := wire.Parse(g.b)
		spoil(g.b)
		if errno != api.OK || !same(second, i) || !same(third, i) {
			t.Errorf("E2: Parse: an answer shares memory with another, or with what was handed in: %x", g.before)
		}
	}
	g := guard(unhex("a2026161016162"))
	wire.Parse(g.b)
	g.check(t, "Parse of what is no item")
}

// parts are the bytes in an item, with their spare room, and its lists.
func parts(i api.Item) (all [][]byte, lists [][]api.Item) {
	if cap(i.Data) > 0 {
		all = append(all, i.Data[:cap(i.Data)])
	}
	if cap(i.List) > 0 {
		lists = append(lists, i.List[:cap(i.List)])
	}
	for _, each := range i.List {
		d, l := parts(each)
		all, lists = append(all, d...), append(lists, l...)
	}
	return all, lists
}

// apart writes something else over each of them: none may show in another.
func apart(t *testing.T, what string, all [][]byte) {
	t.Helper()
	for n, b := range all {
		for at := range b {
			b[at] = byte(n)
		}
	}
	for n, b := range all {
		for _, x := range b {
			if x != byte(n) {
				t.Errorf("E2: %s: two lists of one answer share memory", what)
				return
			}
		}
	}
}

func TestOneAnswer(t *testing.T) {
	i := array(data("abc"), text("abc"), array(data("abc"), data("abc")), array(data("d"), data("e"), array(), array(number(1))), pairs(data("k"), data("v"), data("l"), array(data("w"), number(1), number(2))), data(""), data("x"))
	i.List = append(i.List, i.List...)
	first, errno := wire.Parse(bytesOf(i))
	all, lists := parts(first)
	if errno != api.OK || len(all) < 20 || len(lists) < 8 {
		t.Fatalf("%d, %d, %d", errno, len(all), len(lists))
	}
	apart(t, "Parse", all)
	for n, l := range lists {
		for at := range l {
			l[at] = number(uint64(n))
		}
	}
	for n, l := range lists {
		for _, each := range l {
			if !same(each, number(uint64(n))) {
				t.Fatal("E2: Parse: two lists of one answer share memory")
			}
		}
	}
}

func TestLettersMemory(t *testing.T) {
	for n := range 20 {
		g := guard(some(n, "memory"))
		s := wire.Letters(g.b)
		g.check(t, "Letters")
		kept := string([]byte(s))
		spoil(g.b)
		if s != kept {
			t.Error("E2: Letters: the text shares memory with the bytes")
		}
		first, _ := wire.FromLetters(s)
		want := bytes.Clone(first)
		second, _ := wire.FromLetters(s)
		spoil(first)
		third, _ := wire.FromLetters(s)
		if s != kept || !bytes.Equal(second, want) || !bytes.Equal(third, want) {
			t.Error("E2: FromLetters: answers share memory")
		}
	}
}

func TestTokensMemory(t *testing.T) {
	want := tokens(5)
	var l []api.Token
	var all []guarded
	for _, x := range want {
		keys, secret, sign := guard(x.Keys), guard(x.Secret), guard(x.Sign)
		l, all = append(l, api.Token{Amount: x.Amount, Keys: keys.b, Secret: secret.b, Sign: sign.b}), append(all, keys, secret, sign)
	}
	l = append(l, api.Token{Amount: 77})
	s, errno := wire.PutTokens(l[:5])
	for _, g := range all {
		g.check(t, "PutTokens")
	}
	for n, x := range want {
		if !sameToken(l[n], x) {
			t.Error("E2: PutTokens: a token has changed")
		}
	}
	if errno != api.OK || l[5].Amount != 77 || l[5].Keys != nil {
		t.Errorf("E2: PutTokens: %d, or the spare room of the list has changed", errno)
	}
	first, _ := wire.Tokens(s)
	second, _ := wire.Tokens(s)
	var parts [][]byte
	for _, x := range first {
		parts = append(parts, x.Keys[:cap(x.Keys)], x.Secret[:cap(x.Secret)], x.Sign[:cap(x.Sign)])
	}
	apart(t, "Tokens", parts)
	clear(first[:cap(first)])
	comesBack(t, "after writing over an answer", second, s)
	comesBack(t, "after writing over an answer", want, s)
}
