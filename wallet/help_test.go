package wallet_test

import (
	"bytes"
	"crypto/sha3"
	"encoding/base64"
	"encoding/binary"
	"math"
	"reflect"
	"slices"
	"strconv"
	"testing"

	"mintvault/api"
	"mintvault/blind"
	"mintvault/group"
	"mintvault/keys"
	"mintvault/wallet"
)

const (
	room    = 1 << 20
	around  = 12 // bytes of a frame beside its record
	largest = 1 << 19
)

// some makes n bytes; other seeds make others.
func some(n int, seed string) []byte { return sha3.SumSHAKE128([]byte(seed), n) }

// nameOf is a text of n bytes, not all of it UTF-8.
func nameOf(n int) string { return string(some(n, "name")) }

func seed() []byte { return some(32, "seed") }

// mintSeed is that of the mint whose keys the wallets have.
func mintSeed() []byte { return some(32, "mint") }

func ok(b []byte, errno api.Errno) []byte {
	if errno != api.OK {
		panic(errno)
	}
	return b
}

// tag is Tag by the library's hash.
func tag(label string, parts ...[]byte) []byte {
	h := sha3.New256()
	for _, part := range append([][]byte{[]byte(label)}, parts...) {
		h.Write(binary.BigEndian.AppendUint32(nil, uint32(len(part))))
		h.Write(part)
	}
	return h.Sum(nil)
}

func frame(number int, record []byte) []byte {
	check := tag("frame", binary.BigEndian.AppendUint64(nil, uint64(number)), record)
	b := binary.BigEndian.AppendUint32(nil, uint32(len(record)))
	return slices.Concat(b, record, check[:8])
}

// diskOf has the frames of records.
func diskOf(records ...[]byte) []byte {
	var b []byte
	for i, r := range records {
		b = append(b, frame(i, r)...)
	}
	return b
}

// head, uintOf, bytesOf, listOf and mapOf write as chapter 4 says, by hand.
func head(kind byte, n uint64) []byte {
	first := kind << 5
	switch {
	case n < 24:
		return []byte{first | byte(n)}
	case n < 1<<8:
		return []byte{first | 24, byte(n)}
	case n < 1<<16:
		return binary.BigEndian.AppendUint16([]byte{first | 25}, uint16(n))
	case n < 1<<32:
		return binary.BigEndian.AppendUint32([]byte{first | 26}, uint32(n))
	}
	return binary.BigEndian.AppendUint64([]byte{first | 27}, n)
}

func uintOf(n uint64) []byte  { return head(0, n) }
func bytesOf(b []byte) []byte { return append(head(2, uint64(len(b))), b...) }
func listOf(items ...[]byte) []byte {
	return append(head(4, uint64(len(items))), slices.Concat(items...)...)
}
func mapOf(items ...[]byte) []byte {
	return append(head(5, uint64(len(items)/2)), slices.Concat(items...)...)
}

// callOf is the record of a call.
func callOf(number uint64, text string, amount uint64, list ...api.Signed) []byte {
	var l [][]byte
	for _, s := range list {
		l = append(l, listOf(uintOf(s.Amount), bytesOf(s.Point), bytesOf(s.Sign), bytesOf(s.Proof)))
	}
	return listOf(uintOf(number), bytesOf([]byte(text)), uintOf(amount), listOf(l...))
}

// textOf is the text of tokens.
func textOf(l []api.Token) string {
	var items [][]byte
	for _, t := range l {
		items = append(items, mapOf(uintOf(0), uintOf(t.Amount), uintOf(1), bytesOf(t.Keys), uintOf(2), bytesOf(t.Secret), uintOf(3), bytesOf(t.Sign)))
	}
	return "mv1" + base64.RawURLEncoding.EncodeToString(listOf(items...))
}

// made holds what takes long to make: points, by what they hang on.
var made = map[string][]byte{}

func once(name string, make func() []byte) []byte {
	if made[name] == nil {
		made[name] = make()
	}
	return bytes.Clone(made[name])
}

func keyOf(amount uint64) []byte { return ok(keys.Key(mintSeed(), 0, amount)) }

// set is the mint's keys.
func set() api.Keyset {
	all := once("set", func() []byte {
		s, _ := keys.Set(mintSeed(), 0)
		return slices.Concat(s.Name, slices.Concat(s.Public...))
	})
	s := api.Keyset{Name: all[:8:8]}
	for i := range 20 {
		s.Public = append(s.Public, bytes.Clone(all[8+33*i:][:33]))
	}
	return s
}

// secretOf and hiddenOf are those of an output.
func secretOf(n int) []byte { return ok(keys.Derive(seed(), "token", []uint32{uint32(n)})) }

func hiddenOf(n int, amount uint64) api.Hidden {
	return api.Hidden{Amount: amount, Point: once("hidden "+strconv.Itoa(n), func() []byte {
		r := ok(keys.Scalar(seed(), "blind", []uint32{uint32(n)}))
		return ok(group.Plus(ok(group.HashTo("token", secretOf(n))), ok(group.Times(r, group.Base()))))
	})}
}

// signedOf is what the mint answers of it.
func signedOf(h api.Hidden) api.Signed {
	both := once("signed "+strconv.FormatUint(h.Amount, 10)+string(h.Point), func() []byte {
		sign, proof, errno := blind.Sign(keyOf(h.Amount), h.Point)
		return append(ok(sign, errno), proof...)
	})
	return api.Signed{Amount: h.Amount, Point: bytes.Clone(h.Point), Sign: both[:33:33], Proof: both[33:]}
}

// answerTo is what the mint answers to a request.
func answerTo(r api.Request) []api.Signed {
	var l []api.Signed
	for _, h := range r.Out {
		l = append(l, signedOf(h))
	}
	return l
}

// tokenWith is a token of the mint's with this secret, tokenOf that of an output.
func tokenWith(amount uint64, secret []byte) api.Token {
	sign := once("token "+strconv.FormatUint(amount, 10)+" "+string(secret), func() []byte {
		return ok(group.Times(keyOf(amount), ok(group.HashTo("token", secret))))
	})
	return api.Token{Amount: amount, Keys: set().Name, Secret: bytes.Clone(secret), Sign: sign}
}

func tokenOf(n int, amount uint64) api.Token { return tokenWith(amount, secretOf(n)) }

// foreign are tokens of the mint's that someone else has, all different from those with another name.
func foreign(name string, amounts ...uint64) []api.Token {
	var l []api.Token
	for i, amount := range amounts {
		l = append(l, tokenWith(amount, []byte(name+strconv.Itoa(i))))
	}
	return l
}

// many are n times the amount.
func many(n int, amount uint64) []uint64 { return slices.Repeat([]uint64{amount}, n) }

// noDenominations are other amounts than 1, 2, 4, .. 524,288.
func noDenominations() []uint64 {
	return []uint64{0, 3, 5, 6, 7, 9, 12, 524287, 524289, 1 << 20, 1<<20 + 1, 1 << 32, 1 << 40, 1<<40 + 1, 1 << 63, math.MaxUint64}
}

// noPoints are none, or nothing.
func noPoints() [][]byte {
	g := group.Base()
	low := func(x byte) []byte { return append(append([]byte{2}, make([]byte, 31)...), x) }
	return [][]byte{
		nil, {}, {2}, g[:32], g[1:], append(bytes.Clone(g), 0), make([]byte, 32), make([]byte, 34), low(5), low(0), append([]byte{3}, bytes.Repeat([]byte{255}, 32)...),
		append([]byte{0}, g[1:]...), append([]byte{1}, g[1:]...), append([]byte{4}, g[1:]...), slices.Concat(g, g), make([]byte, 33),
	}
}

func sameToken(a, b api.Token) bool { return reflect.DeepEqual(a, b) }

// sameRequest takes nil and lists without entries for the same (E3).
func sameRequest(a, b api.Request) bool {
	return a.Kind == b.Kind && a.Name == b.Name && a.Amount == b.Amount && slices.EqualFunc(a.In, b.In, sameToken) &&
		slices.EqualFunc(a.Out, b.Out, func(a, b api.Hidden) bool { return reflect.DeepEqual(a, b) })
}

func opened(t *testing.T, disk []byte, limit int) *wallet.Wallet {
	t.Helper()
	w, errno := wallet.Open(seed(), limit, set(), disk)
	if errno != api.OK || w == nil {
		t.Fatalf("V1: Open of %d bytes with room for %d: %d", len(disk), limit, errno)
	}
	return w
}
