package num_test

import (
	"bytes"
	"math/big"
	"testing"

	"mintvault/api"
	"mintvault/num"
)

// answersApart asks twice: an answer that is written over must show neither in what was handed in nor in the second answer.
func answersApart(t *testing.T, what string, ask func() ([]byte, api.Errno), given ...guarded) {
	t.Helper()
	first, errno := ask()
	want := bytes.Clone(first)
	if errno != api.OK {
		t.Errorf("E2: %s: %d", what, errno)
	}
	second, _ := ask()
	spoil(first)
	for _, g := range given {
		g.check(t, what)
	}
	third, _ := ask()
	if !bytes.Equal(second, want) || !bytes.Equal(third, want) {
		t.Errorf("E2: %s: answers share memory", what)
	}
}

func TestMemory(t *testing.T) {
	each(func(kind api.Modulus, _ *big.Int) {
		a, b := guard(of(count(4))), guard(of(count(5)))
		answersApart(t, "Modulus", func() ([]byte, api.Errno) { return num.Modulus(kind) })
		for _, f := range twos() {
			answersApart(t, f.name, func() ([]byte, api.Errno) { return f.call(kind, a.b, b.b) }, a, b)
			answersApart(t, f.name+" of the same", func() ([]byte, api.Errno) { return f.call(kind, a.b, a.b) }, a)
		}
		answersApart(t, "Inv", func() ([]byte, api.Errno) { return num.Inv(kind, a.b) }, a)
		if kind == api.Prime {
			answersApart(t, "Sqrt", func() ([]byte, api.Errno) { return num.Sqrt(kind, a.b) }, a)
		}
		for _, n := range []int{0, 1, 31, 32, 33, 64, 100, 1024} {
			g := guard(make([]byte, n))
			answersApart(t, "Reduce", func() ([]byte, api.Errno) { return num.Reduce(kind, g.b) }, g)
		}
	})
}

// What equals an argument is not the argument.
func TestAnswerIsNotTheArgument(t *testing.T) {
	each(func(kind api.Modulus, _ *big.Int) {
		zero, one := guard(of(count(0))), guard(of(count(1)))
		answersApart(t, "Add of 0", func() ([]byte, api.Errno) { return num.Add(kind, one.b, zero.b) }, one, zero)
		answersApart(t, "Sub of 0", func() ([]byte, api.Errno) { return num.Sub(kind, one.b, zero.b) }, one, zero)
		answersApart(t, "Mul of 1", func() ([]byte, api.Errno) { return num.Mul(kind, one.b, one.b) }, one)
		answersApart(t, "Inv of 1", func() ([]byte, api.Errno) { return num.Inv(kind, one.b) }, one)
		answersApart(t, "Reduce of 1", func() ([]byte, api.Errno) { return num.Reduce(kind, one.b) }, one)
		if kind == api.Prime {
			answersApart(t, "Sqrt of 0", func() ([]byte, api.Errno) { return num.Sqrt(kind, zero.b) }, zero)
		}
		answersApart(t, "Dot of one", func() ([]byte, api.Errno) { return num.Dot(kind, [][]byte{one.b}, [][]byte{one.b}) }, one)
	})
}

// Every power is written over, one behind the other: the others must stay.
func TestPowersMemory(t *testing.T) {
	each(func(kind api.Modulus, _ *big.Int) {
		x := guard(of(count(3)))
		powers, errno := num.Powers(kind, x.b, 256)
		want, _ := num.Powers(kind, x.b, 256)
		if errno != api.OK {
			t.Fatalf("E2: Powers: %d", errno)
		}
		for i, b := range powers {
			if !bytes.Equal(b, want[i]) {
				t.Errorf("E2: power %d shares memory with one ahead of it", i)
			}
			spoil(b)
		}
		x.check(t, "Powers")
		again, _ := num.Powers(kind, x.b, 256)
		for i := range again {
			if !bytes.Equal(again[i], want[i]) {
				t.Errorf("E2: power %d is kept", i)
			}
		}
	})
}

func TestDotMemory(t *testing.T) {
	each(func(kind api.Modulus, _ *big.Int) {
		a, b := guard(of(count(3))), guard(of(count(4)))
		room := [][]byte{a.b, b.b, []byte("spare")}
		lists := room[:2]
		answersApart(t, "Dot", func() ([]byte, api.Errno) { return num.Dot(kind, lists, lists) }, a, b)
		if &room[0][0] != &a.b[0] || &room[1][0] != &b.b[0] || string(room[2]) != "spare" {
			t.Error("E2: Dot: the list, or its spare room, has changed")
		}
	})
}
