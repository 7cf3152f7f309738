package group_test

import (
	"bytes"
	"testing"

	"mintvault/api"
	"mintvault/group"
)

// answersApart asks twice: an answer that is written over must show neither in what was handed in nor in the second answer.
func answersApart(t *testing.T, what string, ask func() ([]byte, api.Errno), given ...guarded) {
	t.Helper()
	first, errno := ask()
	want := bytes.Clone(first)
	if errno != api.OK {
		t.Errorf("E2: %s: %d", what, errno)
	}
	second, _ := ask()
	spoil(first)
	for _, g := range given {
		g.check(t, what)
	}
	third, _ := ask()
	if !bytes.Equal(second, want) || !bytes.Equal(third, want) {
		t.Errorf("E2: %s: answers share memory", what)
	}
}

func TestMemory(t *testing.T) {
	for _, a := range pairs() {
		a, b, n := guard(a.bytes()), guard(base().times(count(9)).bytes()), guard(of(scalar("memory")))
		answersApart(t, "Plus", func() ([]byte, api.Errno) { return group.Plus(a.b, b.b) }, a, b)
		answersApart(t, "Plus of the same", func() ([]byte, api.Errno) { return group.Plus(a.b, a.b) }, a)
		answersApart(t, "Minus", func() ([]byte, api.Errno) { return group.Minus(a.b) }, a)
		answersApart(t, "Times", func() ([]byte, api.Errno) { return group.Times(n.b, a.b) }, n, a)
		answersApart(t, "HashTo", func() ([]byte, api.Errno) { return group.HashTo("label", a.b) }, a)
		answersApart(t, "Point", func() ([]byte, api.Errno) { group.Point(a.b); return nil, api.OK }, a)
	}
	value, blind := guard(of(count(5))), guard(of(count(7)))
	answersApart(t, "Commit", func() ([]byte, api.Errno) { return group.Commit(value.b, blind.b) }, value, blind)
	answersApart(t, "Base", func() ([]byte, api.Errno) { return group.Base(), api.OK })
}

// What equals an argument is not the argument.
func TestAnswerIsNotTheArgument(t *testing.T) {
	a, nothing, one := guard(group.Base()), guard(make([]byte, 33)), guard(of(count(1)))
	answersApart(t, "Plus of nothing", func() ([]byte, api.Errno) { return group.Plus(a.b, nothing.b) }, a, nothing)
	answersApart(t, "Plus to nothing", func() ([]byte, api.Errno) { return group.Plus(nothing.b, a.b) }, a, nothing)
	answersApart(t, "Plus of nothing to nothing", func() ([]byte, api.Errno) { return group.Plus(nothing.b, nothing.b) }, nothing)
	answersApart(t, "Minus of nothing", func() ([]byte, api.Errno) { return group.Minus(nothing.b) }, nothing)
	answersApart(t, "Times 1", func() ([]byte, api.Errno) { return group.Times(one.b, a.b) }, a, one)
	answersApart(t, "Sum of one", func() ([]byte, api.Errno) { return group.Sum([][]byte{one.b}, [][]byte{a.b}) }, a, one)
	answersApart(t, "Sum of none", func() ([]byte, api.Errno) { return group.Sum(nil, nil) })
}

func TestSumMemory(t *testing.T) {
	n, m, a, b := guard(of(count(3))), guard(of(scalar("m"))), guard(group.Base()), guard(pairs()[9].bytes())
	spare := []byte("spare")
	scalars, points := [][]byte{n.b, m.b, spare}, [][]byte{a.b, b.b, spare}
	answersApart(t, "Sum", func() ([]byte, api.Errno) { return group.Sum(scalars[:2], points[:2]) }, n, m, a, b)
	for i, want := range [][]byte{n.b, m.b, spare} {
		if &scalars[i][0] != &want[0] || len(scalars[i]) != len(want) {
			t.Errorf("E2: Sum: the scalars, or their spare room, have changed at %d", i)
		}
	}
	for i, want := range [][]byte{a.b, b.b, spare} {
		if &points[i][0] != &want[0] || len(points[i]) != len(want) {
			t.Errorf("E2: Sum: the points, or their spare room, have changed at %d", i)
		}
	}
	if string(spare) != "spare" {
		t.Error("E2: Sum: what lies in the spare room has changed")
	}
}
