package world

import (
	"bytes"
	"math"
	"slices"
	"sync"
	"testing"

	"mintvault/api"
)

// What is handed in is only read, the spare room behind it too.
func TestHandedIn(t *testing.T) {
	room := some(64, "room")
	copy(room[16:], worldOf(1).Seed)
	acts := slices.Repeat([]api.Act{{Do: 99, Who: 98, N: 97, Amount: 96, Name: "95", Keep: true}}, 300)
	l := restless()
	copy(acts[10:], l)
	seed, given := bytes.Clone(room), slices.Clone(acts)
	want, _ := Play(worldOf(3), l)
	got, errno := Play(api.World{Seed: room[16:48], Wallets: 3}, acts[10:10+len(l)])
	if errno != api.OK || !sameScene(got, want) {
		t.Errorf("P1: %+v, %d, want %+v", got, errno, want)
	}
	if !bytes.Equal(room, seed) || !slices.Equal(acts, given) {
		t.Error("E2: what is handed in is changed")
	}
	clear(room)
	clear(acts)
	if !sameScene(got, want) {
		t.Error("E2: what is handed in is kept")
	}
}

// What is answered is new each time.
func TestAnswered(t *testing.T) {
	l := then(has(1, "a", 7), ask(0, "b", 1))
	first, _ := Play(worldOf(3), l)
	clear(first.Balances[:cap(first.Balances)])
	for i := range first.Open[:cap(first.Open)] {
		first.Open[:cap(first.Open)][i] = true
	}
	plays(t, "the first answer is written over", 3, l, api.Scene{Book: api.Book{Funded: 7, Used: 7, Issued: 7, Count: 1}, Balances: []uint64{0, 7, 0}, Open: []bool{true, false, false}, Requests: 1})
}

// What Play answers hangs on nothing else: worlds do not know of one another (E1).
func TestWorldsStandAlone(t *testing.T) {
	stories := [][]api.Act{restless(), tale(), busy(), nil, around()}
	var want []api.Scene
	for _, l := range stories {
		s, _ := Play(worldOf(3), l)
		want = append(want, s)
	}
	var all sync.WaitGroup
	for i := range 20 {
		all.Go(func() {
			got, errno := Play(worldOf(3), stories[i%len(stories)])
			if errno != api.OK || !sameScene(got, want[i%len(want)]) {
				t.Errorf("E1: story %d: %+v, %d, want %+v", i, got, errno, want[i%len(want)])
			}
		})
	}
	all.Wait()
}

// Entry N of a list: which one it is, and what stays.
func TestLists(t *testing.T) {
	var l list[int]
	if x, some := l.take(0, false); some || x != 0 {
		t.Errorf("P1: an entry of none: %d, %v", x, some)
	}
	for i := range 5 {
		l.put(i)
	}
	for _, x := range []struct {
		n    int
		keep bool
		want int
		rest []int
	}{
		{7, true, 2, []int{0, 1, 2, 3, 4}}, {7, false, 2, []int{0, 1, 3, 4}}, {3, false, 4, []int{0, 1, 3}}, {3, false, 0, []int{1, 3}}, {math.MaxInt, false, 3, []int{1}}, {math.MaxInt, true, 1, []int{1}}, {9, false, 1, nil},
	} {
		if got, some := l.take(x.n, x.keep); !some || got != x.want || !slices.Equal(l, x.rest) {
			t.Errorf("P1: entry %d: %d, %v, and %v stays", x.n, got, some, l)
		}
	}
}

// wild are acts with whatever may stand in one.
func wild(d dice) api.Act {
	numbers := []int{0, 1, 2, 3, 4, 5, 7, 16, 17, 60, 200, 1000, -1, -2, math.MaxInt, math.MinInt, math.MaxInt32, 1 << 40}
	amounts := []uint64{0, 1, 2, 3, 4, 5, 8, 11, 1 << 19, 1 << 20, 1 << 25, 1<<25 + 1, 1 << 40, 1<<40 + 1, 1 << 63, math.MaxUint64}
	names := []string{"", "a", "b", "c", "\xff\x00", string(some(64, "n")), string(some(65, "n")), string(make([]byte, 1000))}
	pick := func() int { return numbers[d.pick(len(numbers))] }
	return api.Act{Do: d.pick(20) - 1, Who: pick(), N: pick(), Amount: amounts[d.pick(len(amounts))], Name: names[d.pick(len(names))], Keep: d.pick(2) == 0}
}

// Nothing panics, and all is as the document tells it, whatever the acts are.
func TestWildActs(t *testing.T) {
	runs(t, 24, func(p *twin, d dice) {
		for range 255 {
			p.act(wild(d))
		}
		p.act(settle())
	})
}
