package mint_test

import (
	"bytes"
	"crypto/sha3"
	"encoding/binary"
	"math"
	"reflect"
	"slices"
	"strconv"
	"testing"

	"mintvault/api"
	"mintvault/blind"
	"mintvault/group"
	"mintvault/keys"
	"mintvault/mint"
)

const (
	room   = 1 << 20
	around = 12 // bytes of a frame beside its record
)

// some makes n bytes; other seeds make others.
func some(n int, seed string) []byte { return sha3.SumSHAKE128([]byte(seed), n) }

// nameOf is a text of n bytes, not all of it UTF-8.
func nameOf(n int) string { return string(some(n, "name")) }

func seed() []byte { return some(32, "seed") }

func ok(b []byte, errno api.Errno) []byte {
	if errno != api.OK {
		panic(errno)
	}
	return b
}

// tag is Tag by the library's hash.
func tag(label string, parts ...[]byte) []byte {
	h := sha3.New256()
	for _, part := range append([][]byte{[]byte(label)}, parts...) {
		h.Write(binary.BigEndian.AppendUint32(nil, uint32(len(part))))
		h.Write(part)
	}
	return h.Sum(nil)
}

func frame(number int, record []byte) []byte {
	check := tag("frame", binary.BigEndian.AppendUint64(nil, uint64(number)), record)
	b := binary.BigEndian.AppendUint32(nil, uint32(len(record)))
	return slices.Concat(b, record, check[:8])
}

// diskOf has the frames of records.
func diskOf(records ...[]byte) []byte {
	var b []byte
	for i, r := range records {
		b = append(b, frame(i, r)...)
	}
	return b
}

// head, uintOf, bytesOf and listOf write as chapter 4 says, by hand.
func head(kind byte, n uint64) []byte {
	first := kind << 5
	switch {
	case n < 24:
		return []byte{first | byte(n)}
	case n < 1<<8:
		return []byte{first | 24, byte(n)}
	case n < 1<<16:
		return binary.BigEndian.AppendUint16([]byte{first | 25}, uint16(n))
	case n < 1<<32:
		return binary.BigEndian.AppendUint32([]byte{first | 26}, uint32(n))
	}
	return binary.BigEndian.AppendUint64([]byte{first | 27}, n)
}

func uintOf(n uint64) []byte  { return head(0, n) }
func bytesOf(b []byte) []byte { return append(head(2, uint64(len(b))), b...) }
func listOf(items ...[]byte) []byte {
	return append(head(4, uint64(len(items))), slices.Concat(items...)...)
}

// recordOf is a request's; moneyOf that of money that comes in.
func recordOf(r api.Request) []byte {
	var in, out [][]byte
	for _, t := range r.In {
		in = append(in, listOf(uintOf(t.Amount), bytesOf(t.Keys), bytesOf(t.Secret), bytesOf(t.Sign)))
	}
	for _, h := range r.Out {
		out = append(out, listOf(uintOf(h.Amount), bytesOf(h.Point)))
	}
	return listOf(uintOf(uint64(r.Kind)), bytesOf([]byte(r.Name)), uintOf(r.Amount), listOf(in...), listOf(out...))
}

func moneyOf(name string, amount uint64) []byte {
	return recordOf(api.Request{Name: name, Amount: amount})
}

// made holds what takes long to make: points, by what they hang on.
var made = map[string][]byte{}

func once(name string, make func() []byte) []byte {
	if made[name] == nil {
		made[name] = make()
	}
	return bytes.Clone(made[name])
}

func keyOf(amount uint64) []byte { return ok(keys.Key(seed(), 0, amount)) }

func setName() []byte {
	return once("set", func() []byte {
		set, _ := keys.Set(seed(), 0)
		return set.Name
	})
}

// tokenOf is a token of the mint's with this secret.
func tokenOf(amount uint64, secret string) api.Token {
	sign := once("token "+strconv.FormatUint(amount, 10)+secret, func() []byte {
		return ok(group.Times(keyOf(amount), ok(group.HashTo("token", []byte(secret)))))
	})
	return api.Token{Amount: amount, Keys: setName(), Secret: []byte(secret), Sign: sign}
}

func pointOf(name string) []byte {
	return once("point "+name, func() []byte { return ok(group.HashTo("hidden", []byte(name))) })
}

func hiddenOf(amount uint64, name string) api.Hidden {
	return api.Hidden{Amount: amount, Point: pointOf(name)}
}

// signedOf is what the mint answers of it.
func signedOf(h api.Hidden) api.Signed {
	both := once("signed "+strconv.FormatUint(h.Amount, 10)+string(h.Point), func() []byte {
		sign, proof, errno := blind.Sign(keyOf(h.Amount), h.Point)
		return append(ok(sign, errno), proof...)
	})
	return api.Signed{Amount: h.Amount, Point: bytes.Clone(h.Point), Sign: both[:33], Proof: both[33:]}
}

// tokens and hiddens are one of each amount, all different from those with another name.
func tokens(name string, amounts ...uint64) []api.Token {
	var l []api.Token
	for i, amount := range amounts {
		l = append(l, tokenOf(amount, name+strconv.Itoa(i)))
	}
	return l
}

func hiddens(name string, amounts ...uint64) []api.Hidden {
	var l []api.Hidden
	for i, amount := range amounts {
		l = append(l, hiddenOf(amount, name+strconv.Itoa(i)))
	}
	return l
}

// many are n times the amount.
func many(n int, amount uint64) []uint64 { return slices.Repeat([]uint64{amount}, n) }

// issue, swap and pay are ordinary requests. The first one asks for an order of 7.
func issue() api.Request {
	return api.Request{Kind: api.Issue, Name: "order", Out: hiddens("i", 1, 2, 4)}
}

func swap() api.Request {
	return api.Request{Kind: api.Swap, In: tokens("s", 2, 1, 4), Out: hiddens("s", 1, 2, 4)}
}

func pay() api.Request {
	return api.Request{Kind: api.Pay, Name: "shop", Amount: 3, In: tokens("p", 1, 8), Out: hiddens("p", 2, 4)}
}

func ordinary() []func() api.Request { return []func() api.Request{issue, swap, pay} }

// changed is a request with something else in it.
func changed(r api.Request, change func(*api.Request)) api.Request {
	change(&r)
	return r
}

func begun(t *testing.T, limit int) *mint.Mint {
	t.Helper()
	m, errno := mint.New(seed(), limit)
	if errno != api.OK || m == nil {
		t.Fatalf("M1: New with room for %d: %d", limit, errno)
	}
	return m
}

func opened(t *testing.T, disk []byte, limit int) *mint.Mint {
	t.Helper()
	m, errno := mint.Open(seed(), limit, disk)
	if errno != api.OK || m == nil {
		t.Fatalf("M1: Open of %d bytes with room for %d: %d", len(disk), limit, errno)
	}
	return m
}

// ready has an order of 7 for issue.
func ready(t *testing.T) *mint.Mint {
	t.Helper()
	m := begun(t, room)
	funds(t, "M2", m, "order", 7, api.OK)
	return m
}

func funds(t *testing.T, what string, m *mint.Mint, name string, amount uint64, want api.Errno) {
	t.Helper()
	if errno := m.Fund(name, amount); errno != want {
		t.Errorf("%s: Fund of %q, %d: %d, want %d", what, name, amount, errno, want)
	}
}

// does holds what Do answers: all that it signs, or an error alone (E4).
func does(t *testing.T, what string, m *mint.Mint, r api.Request, want api.Errno) {
	t.Helper()
	got, errno := m.Do(r)
	var signed []api.Signed
	if want == api.OK {
		for _, h := range r.Out {
			signed = append(signed, signedOf(h))
		}
	}
	if errno != want || !slices.EqualFunc(got, signed, sameSigned) {
		t.Errorf("%s: Do of kind %d, %q, %d, %d in, %d out: %d signed, %d, want %d signed, %d", what, r.Kind, r.Name, r.Amount, len(r.In), len(r.Out), len(got), errno, len(signed), want)
	}
}

func sameSigned(a, b api.Signed) bool {
	return a.Amount == b.Amount && bytes.Equal(a.Point, b.Point) && bytes.Equal(a.Sign, b.Sign) && bytes.Equal(a.Proof, b.Proof)
}

// spends holds which secrets are spent.
func spends(t *testing.T, what string, m *mint.Mint, secret string, want bool) {
	t.Helper()
	got, errno := m.Spent([][]byte{[]byte(secret)})
	if errno != api.OK || len(got) != 1 || got[0] != want {
		t.Errorf("%s: M4: Spent of %q: %v, %d, want %v", what, secret, got, errno, want)
	}
}

// stand is all that a mint tells of itself without power, too.
type stand struct {
	disk []byte
	book api.Book
	done []api.Request
}

func standOf(m *mint.Mint) stand { return stand{m.Disk(), m.Book(), m.Done()} }

func (s stand) holds(t *testing.T, what string, m *mint.Mint) {
	t.Helper()
	if got := m.Disk(); !bytes.Equal(got, s.disk) {
		t.Errorf("%s: M1: %d bytes lie on the disk, want %d", what, len(got), len(s.disk))
	}
	s.holdsBooks(t, what, m)
}

func (s stand) holdsBooks(t *testing.T, what string, m *mint.Mint) {
	t.Helper()
	if got := m.Book(); got != s.book {
		t.Errorf("%s: M4: Book: %+v, want %+v", what, got, s.book)
	}
	if got := m.Done(); !slices.EqualFunc(got, s.done, sameRequest) {
		t.Errorf("%s: M4: Done: %d requests: %+v, want %d: %+v", what, len(got), got, len(s.done), s.done)
	}
}

// sameRequest takes nil and lists without entries for the same (E3).
func sameRequest(a, b api.Request) bool {
	return a.Kind == b.Kind && a.Name == b.Name && a.Amount == b.Amount &&
		slices.EqualFunc(a.In, b.In, func(a, b api.Token) bool { return reflect.DeepEqual(a, b) }) &&
		slices.EqualFunc(a.Out, b.Out, func(a, b api.Hidden) bool { return reflect.DeepEqual(a, b) })
}

// noMoney are amounts that neither come in nor are paid.
func noMoney() []uint64 {
	return []uint64{0, 1<<40 + 1, 1<<40 + 2, 1 << 41, 1 << 63, 1<<63 + 1, math.MaxUint64 - 1, math.MaxUint64}
}

// noDenominations are other amounts than 1, 2, 4, .. 524,288.
func noDenominations() []uint64 {
	return []uint64{0, 3, 5, 6, 7, 9, 12, 524287, 524289, 1 << 20, 1<<20 + 1, 1 << 32, 1 << 40, 1<<40 + 1, 1 << 63, math.MaxUint64}
}

// noPoints are none, or nothing.
func noPoints() [][]byte {
	g := group.Base()
	low := func(x byte) []byte { return append(append([]byte{2}, make([]byte, 31)...), x) }
	return [][]byte{
		nil, {}, {2}, g[:32], g[1:], append(bytes.Clone(g), 0), make([]byte, 32), make([]byte, 34), low(5), low(0), append([]byte{3}, bytes.Repeat([]byte{255}, 32)...),
		append([]byte{0}, g[1:]...), append([]byte{1}, g[1:]...), append([]byte{4}, g[1:]...), slices.Concat(g, g), make([]byte, 33),
	}
}
