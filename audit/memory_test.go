package audit_test

import (
	"bytes"
	"slices"
	"testing"

	"mintvault/api"
	"mintvault/audit"
)

// guarded puts bytes into the middle of others, so that whatever is written beside them or over them shows.
type guarded struct {
	all, before, b []byte
}

func guard(b []byte) guarded {
	const room = 100
	all := some(len(b)+2*room, "around")
	copy(all[room:], b)
	return guarded{all, bytes.Clone(all), all[room : room+len(b)]}
}

func (g guarded) check(t *testing.T, what string) {
	t.Helper()
	if !bytes.Equal(g.all, g.before) {
		t.Errorf("E2: %s: what was handed in, or what lies around it, has changed", what)
	}
}

// spoil writes over bytes and all of their spare room.
func spoil(b []byte) {
	b = b[:cap(b)]
	for i := range b {
		b[i] ^= 0xa5
	}
}

// apart writes over the pieces of an answer, one by one: that must not show in the others.
func apart(t *testing.T, what string, pieces ...[]byte) {
	t.Helper()
	var now [][]byte
	for _, b := range pieces {
		now = append(now, bytes.Clone(b))
	}
	for i, b := range pieces {
		spoil(b)
		now[i] = bytes.Clone(b)
		if !slices.EqualFunc(pieces, now, bytes.Equal) {
			t.Errorf("E2: %s: piece %d shares memory with another", what, i)
		}
	}
}

func (b books) pieces() [][]byte {
	return append(slices.Clone(b.entries), b.closing.Root, b.closing.Blind)
}

func TestMemoryOfEntry(t *testing.T) {
	op := api.Op{Kind: 2, In: 3, Out: 4}
	want := entryOf(seed(), 7, op)
	s := guard(seed())
	first, _ := audit.Entry(s.b, 7, op)
	second, _ := audit.Entry(s.b, 7, op)
	s.check(t, "Entry")
	spoil(s.b)
	if !bytes.Equal(first, want) || !bytes.Equal(second, want) {
		t.Error("E2: Entry: what was handed in is written over, and it shows")
	}
	apart(t, "Entry", first, second)
	if third, _ := audit.Entry(seed(), 7, op); !bytes.Equal(third, want) {
		t.Error("E1: Entry: what was answered is written over, and another one shows it")
	}
	for _, bad := range otherSeeds() {
		s := guard(bad)
		audit.Entry(s.b, 7, op)
		s.check(t, "Entry that is refused")
	}
}

func TestMemoryOfRight(t *testing.T) {
	e := ordinary()
	for _, b := range [][]byte{e, flipped(e, 0), flipped(e, 5), flipped(e, 40), flipped(e, 100), flipped(e, 1200), e[:1312], nil} {
		g := guard(b)
		if first, second := audit.Right(g.b), audit.Right(g.b); first != second {
			t.Errorf("E1: Right: %v, then %v", first, second)
		}
		g.check(t, "Right")
	}
}

func TestMemoryOfClose(t *testing.T) {
	want := rightBooks()
	s, room := guard(seed()), slices.Concat([]api.Op{{Kind: 77}}, several(), []api.Op{{Kind: 78}, {Kind: 79}})
	before := slices.Clone(room)
	ask := func() books {
		entries, closing, _ := audit.Close(s.b, room[1:5])
		return books{entries, closing}
	}
	first, second := ask(), ask()
	s.check(t, "Close")
	if !slices.Equal(room, before) {
		t.Error("E2: Close: the operations, or what lies around them, have changed")
	}
	spoil(s.b)
	clear(room)
	if !first.same(want) || !second.same(want) {
		t.Error("E2: Close: what was handed in is written over, and it shows")
	}
	apart(t, "Close", slices.Concat(first.pieces(), second.pieces())...)
	clear(first.entries[:cap(first.entries)])
	if len(second.entries) != 4 || second.entries[0] == nil {
		t.Error("E2: Close: two lists share memory")
	}
	if entries, closing, _ := audit.Close(seed(), several()); !(books{entries, closing}).same(want) {
		t.Error("E1: Close: what was answered is written over, and another one shows it")
	}
	for _, ops := range [][]api.Op{make([]api.Op, 3, 5), {{Kind: 1, In: 1}}, make([]api.Op, 65)} {
		before := slices.Clone(ops)
		audit.Close(seed(), ops)
		if !slices.Equal(ops, before) {
			t.Error("E2: Close that is refused: the operations have changed")
		}
	}
}

func TestMemoryOfCheck(t *testing.T) {
	b := rightBooks()
	for _, b := range []books{b, b.changed(func(b *books) { b.closing.Total++ }), b.changed(func(b *books) { b.entries[2] = nil; *b = b.rooted() }), closed(seed(), 0)} {
		var all []guarded
		laid := func(b []byte) []byte {
			all = append(all, guard(b))
			return all[len(all)-1].b
		}
		spare := []byte("spare")
		room := [][]byte{spare}
		for _, e := range b.entries {
			room = append(room, laid(e))
		}
		room = append(room, spare, spare)
		before := slices.Clone(room)
		c := api.Closing{Count: b.closing.Count, Root: laid(b.closing.Root), Total: b.closing.Total, Blind: laid(b.closing.Blind)}
		list := room[1 : 1+len(b.entries)]
		if first, second := audit.Check(list, c), audit.Check(list, c); first != second {
			t.Errorf("E1: Check: %v, then %v", first, second)
		}
		for _, g := range all {
			g.check(t, "Check")
		}
		for i := range room {
			if len(room[i]) != len(before[i]) || len(room[i]) > 0 && &room[i][0] != &before[i][0] {
				t.Errorf("E2: Check: entry %d of the list, or what lies around it, has changed", i)
			}
		}
	}
}
