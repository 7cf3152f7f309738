package sigma_test

import (
	"bytes"
	"testing"

	"mintvault/api"
	"mintvault/group"
	"mintvault/sigma"
)

// answersApart asks again and again: an answer that is written over must show neither in what was handed in nor in another answer, and what was handed in may change behind the answer.
func answersApart(t *testing.T, what string, ask func() ([]byte, api.Errno), given ...guarded) {
	t.Helper()
	first, errno := ask()
	want := bytes.Clone(first)
	if errno != api.OK {
		t.Errorf("E2: %s: %d", what, errno)
	}
	second, _ := ask()
	spoil(first)
	for _, g := range given {
		g.check(t, what)
	}
	third, _ := ask()
	for _, g := range given {
		spoil(g.b)
	}
	if !bytes.Equal(second, want) || !bytes.Equal(third, want) {
		t.Errorf("E2: %s: answers share memory", what)
	}
}

func TestMemory(t *testing.T) {
	for _, x := range secrets() {
		secret, text, base := guard(of(x)), guard([]byte("some text")), guard(public(count(9)))
		answersApart(t, "Sign", func() ([]byte, api.Errno) { return sigma.Sign(secret.b, text.b) }, secret, text)
		secret = guard(of(x))
		answersApart(t, "ProveSame", func() ([]byte, api.Errno) { return sigma.ProveSame(secret.b, base.b) }, secret, base)
		value, blind := guard(of(x)), guard(of(count(0)))
		answersApart(t, "ProveOpen", func() ([]byte, api.Errno) { return sigma.ProveOpen(value.b, blind.b) }, value, blind)
		both := guard(of(x))
		answersApart(t, "ProveOpen of the same twice", func() ([]byte, api.Errno) { return sigma.ProveOpen(both.b, both.b) }, both)
		c1, z1, c2, z2 := guard(of(count(1))), guard(of(x)), guard(of(count(0))), guard(of(count(0)))
		answersApart(t, "Extract", func() ([]byte, api.Errno) { return sigma.Extract(c1.b, z1.b, c2.b, z2.b) }, c1, z1, c2, z2)
	}
}

func TestMemoryOfVerify(t *testing.T) {
	x, text := ordinary("x"), []byte("some text")
	for _, signature := range [][]byte{signed(x, text), signed(x, nil), nil, make([]byte, 65)} {
		p, m, s := guard(public(x)), guard(text), guard(signature)
		sigma.Verify(p.b, m.b, s.b)
		for _, g := range []guarded{p, m, s} {
			g.check(t, "Verify")
		}
	}
	for _, proof := range [][]byte{sameProof(x, group.Base()), nil, make([]byte, 64)} {
		a, base, p := guard(public(x)), guard(group.Base()), guard(proof)
		sigma.VerifySame(a.b, base.b, a.b, p.b)
		for _, g := range []guarded{a, base, p} {
			g.check(t, "VerifySame")
		}
	}
	for _, proof := range [][]byte{openProof(x, x), nil, make([]byte, 97)} {
		c, p := guard(commit(x, x)), guard(proof)
		sigma.VerifyOpen(c.b, p.b)
		c.check(t, "VerifyOpen")
		p.check(t, "VerifyOpen")
	}
}

// guardedList is a list of guarded bytes with something in its spare room.
type guardedList struct {
	entries []guarded
	room    [][]byte
	spare   []byte
}

func guardList(l [][]byte) guardedList {
	g := guardedList{spare: []byte("spare")}
	for _, b := range l {
		each := guard(b)
		g.entries, g.room = append(g.entries, each), append(g.room, each.b)
	}
	g.room = append(g.room, g.spare)
	return g
}

func (g guardedList) list() [][]byte { return g.room[:len(g.entries)] }

func (g guardedList) check(t *testing.T) {
	t.Helper()
	for i, each := range g.entries {
		each.check(t, "Batch")
		if len(g.room[i]) != len(each.b) || len(each.b) > 0 && &g.room[i][0] != &each.b[0] {
			t.Errorf("E2: Batch: entry %d of a list has changed", i)
		}
	}
	if last := g.room[len(g.entries)]; &last[0] != &g.spare[0] || string(last) != "spare" {
		t.Error("E2: Batch: the spare room of a list has changed")
	}
}

func TestMemoryOfBatch(t *testing.T) {
	bad := right(3)
	bad.signatures[1] = nil
	for _, b := range []*batch{right(0), right(1), right(5), right(5).shifted(2, count(1)), bad} {
		p, m, s := guardList(b.publics), guardList(b.texts), guardList(b.signatures)
		first, _ := sigma.Batch(p.list(), m.list(), s.list())
		second, errno := sigma.Batch(p.list(), m.list(), s.list())
		if first != second || errno != api.OK {
			t.Errorf("E1: Batch: %v, then %v, %d", first, second, errno)
		}
		p.check(t)
		m.check(t)
		s.check(t)
	}
}
