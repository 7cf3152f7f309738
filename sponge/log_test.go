package sponge_test

import (
	"bytes"
	"crypto/sha3"
	"math"
	"testing"

	"mintvault/api"
	"mintvault/sponge"
)

// wantLog is S4, by the library's hashes.
type wantLog struct{ state []byte }

func newWantLog(label string) *wantLog {
	return &wantLog{wantTag("log", []byte(label))}
}

func (w *wantLog) say(label string, b []byte) {
	w.state = wantTag("say", w.state, []byte(label), b)
}

func (w *wantLog) ask(label string, n int) []byte {
	out := sha3.SumSHAKE256(wantTag("ask", w.state, []byte(label)), n)
	w.state = wantTag("asked", w.state, []byte(label))
	return out
}

func ask(t *testing.T, l *sponge.Log, label string, n int) []byte {
	t.Helper()
	out, e := l.Ask(label, n)
	if e != api.OK || len(out) != n {
		t.Fatalf("S4: Ask of %d: %d bytes, errno %d", n, len(out), e)
	}
	return out
}

func TestLogExample(t *testing.T) {
	l := sponge.NewLog("a")
	l.Say("b", []byte("c"))
	begins(t, "S4: the example", ask(t, l, "d", 8), "d47bef16c40c29da")
}

func TestLogOfEveryLength(t *testing.T) {
	l, w := sponge.NewLog("lengths"), newWantLog("lengths")
	for _, n := range lengths() {
		b, label := some(n, byte(n)), string(some(n%300, 10))
		l.Say(label, b)
		w.say(label, b)
		same(t, "S4: Ask", ask(t, l, label, n%1025), w.ask(label, n%1025))
	}
	same(t, "S4: Ask at the end", ask(t, l, "end", 64), w.ask("end", 64))
}

func TestLogLabels(t *testing.T) {
	for _, label := range []string{"", "a", "\x00", "\xff", string(some(137, 11))} {
		l, w := sponge.NewLog(label), newWantLog(label)
		same(t, "S4: at first", ask(t, l, label, 40), w.ask(label, 40))
		same(t, "S4: asked again", ask(t, l, label, 40), w.ask(label, 40))
		l.Say(label, []byte(label))
		w.say(label, []byte(label))
		same(t, "S4: said", ask(t, l, label, 40), w.ask(label, 40))
	}
}

func TestSayOfNothing(t *testing.T) {
	l, m, w := sponge.NewLog("n"), sponge.NewLog("n"), newWantLog("n")
	before := ask(t, l.Clone(), "q", 32)
	l.Say("", nil)
	m.Say("", []byte{})
	w.say("", nil)
	want := w.ask("q", 32)
	same(t, "S4: nil said", ask(t, l, "q", 32), want)
	same(t, "S4: no bytes said", ask(t, m, "q", 32), want)
	if bytes.Equal(before, want) {
		t.Error("S4: saying nothing does not count")
	}
}

func TestAskEdges(t *testing.T) {
	for _, n := range []int{0, 1, 135, 136, 137, 272, 1023, 1024} {
		l, w := sponge.NewLog("edges"), newWantLog("edges")
		same(t, "S4: Ask", ask(t, l, "q", n), w.ask("q", n))
		same(t, "S4: Ask behind it", ask(t, l, "q", 64), w.ask("q", 64))
	}
}

func TestAskTooLongChangesNothing(t *testing.T) {
	l, w := sponge.NewLog("long"), newWantLog("long")
	l.Say("b", []byte("c"))
	w.say("b", []byte("c"))
	for _, n := range []int{-1, 1025, 1026, 16384, 16385, math.MinInt, math.MinInt32, math.MaxInt32, math.MaxInt} {
		if out, e := l.Ask("q", n); len(out) != 0 || e != api.ErrLong {
			t.Errorf("S4: Ask of %d: %d bytes, errno %d", n, len(out), e)
		}
		same(t, "S4: behind ErrLong", ask(t, l.Clone(), "q", 64), sha3.SumSHAKE256(wantTag("ask", w.state, []byte("q")), 64))
	}
	same(t, "S4: behind all of them", ask(t, l, "q", 64), w.ask("q", 64))
}

func TestCloneGoesOnApart(t *testing.T) {
	l, w := sponge.NewLog("clone"), newWantLog("clone")
	l.Say("b", []byte("c"))
	w.say("b", []byte("c"))
	c, v := l.Clone(), &wantLog{bytes.Clone(w.state)}
	if c == nil || c == l {
		t.Fatal("S4: the clone is none of its own")
	}
	l.Say("one", []byte("l"))
	w.say("one", []byte("l"))
	same(t, "S4: the clone, when the first one has gone on", ask(t, c, "q", 64), v.ask("q", 64))
	same(t, "S4: the first one, when the clone has gone on", ask(t, l, "q", 64), w.ask("q", 64))
	c.Say("two", []byte("c"))
	v.say("two", []byte("c"))
	d, u := c.Clone(), &wantLog{bytes.Clone(v.state)}
	ask(t, l, "r", 3)
	w.ask("r", 3)
	c.Say("three", nil)
	v.say("three", nil)
	same(t, "S4: the first one", ask(t, l, "q", 64), w.ask("q", 64))
	same(t, "S4: its clone", ask(t, c, "q", 64), v.ask("q", 64))
	same(t, "S4: the clone's clone", ask(t, d, "q", 64), u.ask("q", 64))
}

func TestLogsDoNotKnowOfOneAnother(t *testing.T) {
	l, m := sponge.NewLog("l"), sponge.NewLog("m")
	w, v := newWantLog("l"), newWantLog("m")
	for i := range 20 {
		l.Say("i", []byte{byte(i)})
		w.say("i", []byte{byte(i)})
		same(t, "E1: one log", ask(t, m, "q", i), v.ask("q", i))
		m.Say("j", []byte{byte(i)})
		v.say("j", []byte{byte(i)})
		same(t, "E1: another log", ask(t, l, "q", i), w.ask("q", i))
	}
}

func TestLogMemory(t *testing.T) {
	l, w := sponge.NewLog("memory"), newWantLog("memory")
	g := guard(some(140, 12))
	l.Say("b", g.b)
	w.say("b", g.b)
	g.check(t, "Say")
	spoil(g.all)
	for _, n := range []int{0, 1, 32, 136, 1024} {
		out := ask(t, l, "q", n)
		same(t, "E2: Ask, when what was said has changed", out, w.ask("q", n))
		again := ask(t, l, "q", n)
		spoil(out)
		same(t, "E2: Ask, when the answer ahead was written over", again, w.ask("q", n))
	}
}
