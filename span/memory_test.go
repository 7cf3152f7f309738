package span_test

import (
	"bytes"
	"slices"
	"strconv"
	"testing"

	"mintvault/api"
	"mintvault/span"
)

// guarded puts bytes into the middle of others, so that whatever is written beside them or over them shows.
type guarded struct {
	all    []byte
	before []byte
	b      []byte
}

func guard(b []byte) guarded {
	const room = 100
	all := some(len(b)+2*room, "around")
	copy(all[room:], b)
	return guarded{all, bytes.Clone(all), all[room : room+len(b)]}
}

func (g guarded) check(t *testing.T, what string) {
	t.Helper()
	if !bytes.Equal(g.all, g.before) {
		t.Errorf("E2: %s: what was handed in, or what lies around it, has changed", what)
	}
}

// guardedList is a list of guarded bytes with something in its spare room.
type guardedList struct {
	entries []guarded
	room    [][]byte
	spare   []byte
}

func guardList(l [][]byte) guardedList {
	g := guardedList{spare: []byte("spare")}
	for _, b := range l {
		each := guard(b)
		g.entries, g.room = append(g.entries, each), append(g.room, each.b)
	}
	g.room = append(g.room, g.spare)
	return g
}

func (g guardedList) list() [][]byte { return g.room[:len(g.entries)] }

func (g guardedList) check(t *testing.T, what string) {
	t.Helper()
	for i, each := range g.entries {
		each.check(t, what)
		if len(g.room[i]) != len(each.b) || len(each.b) > 0 && &g.room[i][0] != &each.b[0] {
			t.Errorf("E2: %s: entry %d of a list has changed", what, i)
		}
	}
	if last := g.room[len(g.entries)]; &last[0] != &g.spare[0] || string(last) != "spare" {
		t.Errorf("E2: %s: the spare room of a list has changed", what)
	}
}

// spoil writes over bytes and all of their spare room.
func spoil(b []byte) {
	b = b[:cap(b)]
	for i := range b {
		b[i] ^= 0xa5
	}
}

// answerOf is an answer as the bytes of which it is made, and the lists of such bytes.
type answerOf struct {
	pieces [][]byte
	lists  [][][]byte
}

func ofRange(p api.Range) answerOf {
	return answerOf{slices.Concat(fixed(p), p.Inner.L, p.Inner.R), [][][]byte{p.Inner.L, p.Inner.R}}
}

func ofInner(point []byte, p api.Inner) answerOf {
	return answerOf{slices.Concat([][]byte{point, p.A, p.B}, p.L, p.R), [][][]byte{p.L, p.R}}
}

func (a answerOf) copied() [][]byte {
	var all [][]byte
	for _, b := range a.pieces {
		all = append(all, bytes.Clone(b))
	}
	return all
}

func (a answerOf) is(t *testing.T, what string, want [][]byte) {
	t.Helper()
	if !slices.EqualFunc(a.pieces, want, bytes.Equal) {
		t.Errorf("E2: %s: memory is shared", what)
	}
}

// answersApart writes over an answer, piece by piece: that must show neither in its other pieces nor in another answer.
func answersApart(t *testing.T, what string, ask func() answerOf) {
	t.Helper()
	first, second := ask(), ask()
	want := first.copied()
	now := first.copied()
	for i, b := range first.pieces {
		spoil(b)
		now[i] = bytes.Clone(b)
		first.is(t, what+", piece "+strconv.Itoa(i), now)
	}
	second.is(t, what+", another answer", want)
	ask().is(t, what+", a later answer", want)
	second.listsApart(t, what)
}

// listsApart writes over one list after the other, with its spare room.
func (a answerOf) listsApart(t *testing.T, what string) {
	t.Helper()
	for i, list := range a.lists {
		var before [][][]byte
		for _, other := range a.lists {
			before = append(before, slices.Clone(other))
		}
		whole := list[:cap(list)]
		for k := range whole {
			whole[k] = []byte("written over")
		}
		for j, other := range a.lists {
			if i != j && !slices.EqualFunc(other, before[j], bytes.Equal) {
				t.Errorf("E2: %s: two lists of one answer share memory", what)
			}
		}
	}
}

func TestMemoryOfProveInner(t *testing.T) {
	for _, n := range []int{1, 2, 8} {
		a, b := guardList(allOf(ordinaries(n, "a"))), guardList(allOf(ordinaries(n, "b")))
		answersApart(t, "ProveInner", func() answerOf {
			point, proof, errno := span.ProveInner("label", a.list(), b.list())
			if errno != api.OK {
				t.Errorf("E2: ProveInner: %d", errno)
			}
			return ofInner(point, proof)
		})
		a.check(t, "ProveInner")
		b.check(t, "ProveInner")
		point, proof, _ := span.ProveInner("label", a.list(), b.list())
		before := ofInner(point, proof).copied()
		for i := range n {
			spoil(a.room[i])
			spoil(b.room[i])
		}
		ofInner(point, proof).is(t, "ProveInner, what was handed in is changed", before)
	}
	for _, bad := range [][][]byte{nil, make([][]byte, 3), {nil}, {nil, {1}}} {
		g := guardList(bad)
		span.ProveInner("label", g.list(), g.list())
		g.check(t, "ProveInner of what is none")
	}
}

func TestMemoryOfProve(t *testing.T) {
	for _, value := range []uint64{0, 77, 256} {
		blind, seed := guard(of(ordinary("r"))), guard(seed())
		if value < 256 {
			answersApart(t, "Prove", func() answerOf {
				p, errno := span.Prove(value, blind.b, 8, seed.b)
				if errno != api.OK {
					t.Errorf("E2: Prove: %d", errno)
				}
				return ofRange(p)
			})
		}
		p, _ := span.Prove(value, blind.b, 8, seed.b)
		blind.check(t, "Prove")
		seed.check(t, "Prove")
		before := ofRange(p).copied()
		spoil(blind.b)
		spoil(seed.b)
		ofRange(p).is(t, "Prove, what was handed in is changed", before)
	}
}

// guardedRange is a proof all of whose parts are guarded.
type guardedRange struct {
	parts       []guarded
	left, right guardedList
	proof       api.Range
}

func guardRange(p api.Range) guardedRange {
	g := guardedRange{left: guardList(p.Inner.L), right: guardList(p.Inner.R), proof: p}
	g.proof.Inner.L, g.proof.Inner.R = g.left.list(), g.right.list()
	for _, part := range []*[]byte{&g.proof.A, &g.proof.S, &g.proof.T1, &g.proof.T2, &g.proof.Tau, &g.proof.Mu, &g.proof.T, &g.proof.Inner.A, &g.proof.Inner.B} {
		each := guard(*part)
		g.parts = append(g.parts, each)
		*part = each.b
	}
	return g
}

func (g guardedRange) check(t *testing.T, what string) {
	t.Helper()
	for _, each := range g.parts {
		each.check(t, what)
	}
	g.left.check(t, what)
	g.right.check(t, what)
}

func (g guardedRange) spoil() {
	for _, each := range g.parts {
		spoil(each.b)
	}
	for _, b := range slices.Concat(g.left.list(), g.right.list()) {
		spoil(b)
	}
}

func TestMemoryOfVerify(t *testing.T) {
	right := makeRange(77, 8)
	for _, p := range []api.Range{right.proof, shaped(3, 3), shaped(2, 1), {}} {
		c, g := guard(right.commit), guardRange(p)
		first, second := span.Verify(c.b, 8, g.proof), span.Verify(c.b, 8, g.proof)
		if first != second {
			t.Errorf("E1: Verify: %v, then %v", first, second)
		}
		c.check(t, "Verify")
		g.check(t, "Verify")
	}
	m := makeInner(8)
	for _, p := range []api.Inner{m.proof, right.proof.Inner, shaped(3, 3).Inner, shaped(2, 1).Inner, {}} {
		c, g := guard(m.point), guardRange(api.Range{Inner: p})
		first, second := span.VerifyInner(m.label, 8, c.b, g.proof.Inner), span.VerifyInner(m.label, 8, c.b, g.proof.Inner)
		if first != second {
			t.Errorf("E1: VerifyInner: %v, then %v", first, second)
		}
		c.check(t, "VerifyInner")
		g.check(t, "VerifyInner")
	}
}

func TestMemoryOfPutAndRead(t *testing.T) {
	for _, p := range []api.Range{shaped(0, 0), shaped(3, 3), shaped(6, 6)} {
		g := guardRange(p)
		answersApart(t, "Put", func() answerOf {
			b, errno := span.Put(g.proof)
			if errno != api.OK {
				t.Errorf("E2: Put: %d", errno)
			}
			return answerOf{pieces: [][]byte{b}}
		})
		g.check(t, "Put")
		b, _ := span.Put(g.proof)
		g.spoil()
		answerOf{pieces: [][]byte{b}}.is(t, "Put, what was handed in is changed", [][]byte{laid(p)})

		given := guard(laid(p))
		answersApart(t, "Read", func() answerOf {
			p, errno := span.Read(given.b)
			if errno != api.OK {
				t.Errorf("E2: Read: %d", errno)
			}
			return ofRange(p)
		})
		given.check(t, "Read")
		read, _ := span.Read(given.b)
		spoil(given.b)
		ofRange(read).is(t, "Read, what was handed in is changed", ofRange(p).pieces)
	}
	for _, p := range []api.Range{{}, shaped(3, 2), shaped(7, 7)} {
		g := guardRange(p)
		span.Put(g.proof)
		g.check(t, "Put of what is none")
		given := guard(laid(p))
		span.Read(given.b)
		given.check(t, "Read of what is none")
	}
}
