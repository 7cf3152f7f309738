package mint_test

import (
	"bytes"
	"reflect"
	"slices"
	"testing"

	"mintvault/api"
	"mintvault/mint"
)

// region is the memory behind a list, spare room included.
type region struct {
	from, to uintptr
}

// regions are those of all lists that can be reached from a value, those that are kept inside too.
func regions(v reflect.Value) []region {
	var all []region
	switch v.Kind() {
	case reflect.Slice:
		if size := uintptr(v.Cap()) * v.Type().Elem().Size(); size > 0 {
			all = append(all, region{v.Pointer(), v.Pointer() + size})
		}
		for i := range v.Len() {
			all = append(all, regions(v.Index(i))...)
		}
	case reflect.Struct:
		for i := range v.NumField() {
			all = append(all, regions(v.Field(i))...)
		}
	case reflect.Pointer, reflect.Interface:
		if !v.IsNil() {
			all = append(all, regions(v.Elem())...)
		}
	case reflect.Map:
		for i := v.MapRange(); i.Next(); {
			all = append(all, append(regions(i.Key()), regions(i.Value())...)...)
		}
	}
	return all
}

// apart holds that no two lists of an answer share memory, and that none does with another thing.
func apart(t *testing.T, what string, answer any, others ...any) {
	t.Helper()
	mine := regions(reflect.ValueOf(answer))
	theirs := mine
	for _, other := range others {
		theirs = append(theirs, regions(reflect.ValueOf(other))...)
	}
	for i, a := range mine {
		for _, b := range theirs[i+1:] {
			if a.from < b.to && b.from < a.to {
				t.Errorf("E2: %s: lists share memory", what)
				return
			}
		}
	}
}

// laid is a request all of whose lists lie in the middle of others, so that whatever is written beside them or over them shows.
type laid struct {
	request          api.Request
	room, roomBefore []byte
	in, inBefore     []api.Token
	out, outBefore   []api.Hidden
	used             int
}

func lay(r api.Request) *laid {
	l := &laid{room: some(40000, "room")}
	l.in = slices.Repeat([]api.Token{{Amount: 77, Secret: []byte("around")}}, len(r.In)+20)
	l.out = slices.Repeat([]api.Hidden{{Amount: 77, Point: []byte("around")}}, len(r.Out)+20)
	for i, t := range r.In {
		l.in[10+i] = api.Token{Amount: t.Amount, Keys: l.put(t.Keys), Secret: l.put(t.Secret), Sign: l.put(t.Sign)}
	}
	for i, h := range r.Out {
		l.out[10+i] = api.Hidden{Amount: h.Amount, Point: l.put(h.Point)}
	}
	r.In, r.Out = l.in[10:10+len(r.In)], l.out[10:10+len(r.Out)]
	l.request, l.roomBefore, l.inBefore, l.outBefore = r, bytes.Clone(l.room), slices.Clone(l.in), slices.Clone(l.out)
	return l
}

func (l *laid) put(b []byte) []byte {
	from := l.used + 10
	l.used = from + copy(l.room[from:], b)
	return l.room[from:l.used]
}

func (l *laid) check(t *testing.T, what string) {
	t.Helper()
	if !bytes.Equal(l.room, l.roomBefore) || !reflect.DeepEqual(l.in, l.inBefore) || !reflect.DeepEqual(l.out, l.outBefore) {
		t.Errorf("E2: %s: what was handed in, or what lies around it, has changed", what)
	}
}

// spoil writes over all that was handed in.
func (l *laid) spoil() {
	for i := range l.room {
		l.room[i] ^= 0xa5
	}
	clear(l.in)
	clear(l.out)
}

func TestMemoryOfDo(t *testing.T) {
	m := ready(t)
	var done []api.Request
	for _, r := range ordinary() {
		for range 2 {
			l := lay(r())
			answer, errno := m.Do(l.request)
			if errno != api.OK {
				t.Fatalf("M3: %d", errno)
			}
			l.check(t, "Do")
			other, _ := m.Do(r())
			apart(t, "Do", answer, other, l.request, m)
			apart(t, "Do keeps what it is handed", m, l.request)
			l.spoil()
			if !slices.EqualFunc(answer, other, sameSigned) {
				t.Error("E2: an answer hangs on what was handed in")
			}
		}
		done = append(done, r())
	}
	want := stand{diskOf(moneyOf("order", 7), recordOf(done[0]), recordOf(done[1]), recordOf(done[2])), m.Book(), done}
	want.holds(t, "E2: what was handed in is written over", m)
	want.holds(t, "E2: what was handed in is written over, behind Open", opened(t, m.Disk(), room))
	spends(t, "E2: what was handed in is written over", m, "s0", true)
}

func TestMemoryOfRefusals(t *testing.T) {
	m := crowded(t)
	refusesLaid := func(base func() api.Request, faults []fault) {
		t.Helper()
		for _, f := range faults {
			l := lay(changed(base(), f.spoil))
			does(t, "E2: refused", m, l.request, f.errno)
			l.check(t, "Do that is refused")
			apart(t, "Do that is refused", m, l.request)
		}
	}
	refusesLaid(taking(api.Swap), takingFaults())
	refusesLaid(taking(api.Pay), takingFaults())
	refusesLaid(issue, issueFaults())
	m.Arm(10)
	for range 2 {
		l := lay(swap())
		does(t, "E2: without power", m, l.request, api.ErrPower)
		l.check(t, "Do without power")
		apart(t, "Do without power", m, l.request)
	}
}

func TestMemoryOfSpent(t *testing.T) {
	m := ready(t)
	does(t, "M3", m, swap(), api.OK)
	l := lay(swap())
	var secrets [][]byte
	for _, token := range l.request.In {
		secrets = append(secrets, token.Secret)
	}
	before := slices.Clone(secrets)
	one, _ := m.Spent(secrets)
	two, _ := m.Spent(secrets)
	l.check(t, "Spent")
	apart(t, "Spent", one, two, secrets, m)
	apart(t, "Spent keeps what it is handed", m, secrets)
	if !reflect.DeepEqual(secrets, before) || !slices.Equal(two, []bool{true, true, true}) {
		t.Errorf("E2: Spent: %v", two)
	}
	clear(one)
	l.spoil()
	tells(t, "E2: what was answered and handed in is written over", m, [][]byte{[]byte("s0"), []byte("s1")}, []bool{true, true})
}

func TestMemoryOfOpen(t *testing.T) {
	m := ready(t)
	for _, r := range ordinary() {
		does(t, "M3", m, r(), api.OK)
	}
	want := standOf(m)
	all := slices.Concat(some(300, "a"), want.disk, some(300, "b"), seed(), some(300, "c"))
	before := bytes.Clone(all)
	disk := all[300 : 300+len(want.disk)]
	from := 600 + len(want.disk)
	s := all[from : from+32]
	o, errno := mint.Open(s, room, disk)
	n, errnoNew := mint.New(s, room)
	if errno != api.OK || errnoNew != api.OK {
		t.Fatalf("M1: %d, %d", errno, errnoNew)
	}
	mint.Open(s, room, append(bytes.Clone(disk), disk...))
	mint.Open(s[1:], room, disk)
	mint.Open(s, 64, disk)
	if !bytes.Equal(all, before) {
		t.Error("E2: Open: what was handed in has changed")
	}
	apart(t, "Open", all, o, n)
	for i := range all {
		all[i] ^= 0x5a
	}
	want.holds(t, "E2: what was handed in is written over", o)
	again(t, "E2: what was handed in is written over", o, swap())
	funds(t, "E2: what was handed in is written over", n, "order", 7, api.OK)
	does(t, "E2: what was handed in is written over", n, swap(), api.OK)
}

func TestMemoryOfAnswers(t *testing.T) {
	m := ready(t)
	for _, r := range ordinary() {
		does(t, "M3", m, r(), api.OK)
	}
	want, set := standOf(m), m.Keys()
	apart(t, "Keys", set, m.Keys(), m)
	apart(t, "Done", m.Done(), m.Done(), m)
	apart(t, "Disk", m.Disk(), m.Disk(), m)
	for _, b := range append(m.Keys().Public, m.Keys().Name, m.Disk()) {
		clear(b)
	}
	other := m.Keys()
	spoilKeys(other)
	spoilRequests(m.Done())
	want.holds(t, "E2: what was answered is written over", m)
	if !reflect.DeepEqual(m.Keys(), set) {
		t.Error("E2: Keys hang on what was answered")
	}
	// What was answered stays as it is, whatever the mint does behind it.
	done, disk := m.Done(), m.Disk()
	funds(t, "M2", m, "more", 1, api.OK)
	does(t, "M3", m, api.Request{Kind: api.Swap, In: tokens("m", 1), Out: hiddens("m", 1)}, api.OK)
	if !bytes.Equal(disk, want.disk) || !reflect.DeepEqual(done, want.done) {
		t.Error("E2: what was answered has changed")
	}
	refuses(t, "E2: Keys are written over", m, changed(swap(), func(r *api.Request) { r.In[0].Keys = make([]byte, 8) }), api.ErrKeys)
}

func spoilKeys(set api.Keyset) {
	clear(set.Name)
	for i := range set.Public {
		clear(set.Public[i])
		set.Public[i] = nil
	}
}

func spoilRequests(l []api.Request) {
	for i, r := range l {
		for _, t := range r.In {
			clear(t.Keys)
			clear(t.Secret)
			clear(t.Sign)
		}
		for _, h := range r.Out {
			clear(h.Point)
		}
		clear(r.In)
		clear(r.Out)
		l[i] = api.Request{}
	}
}
