package wire_test

import (
	"bytes"
	"crypto/sha3"
	"encoding/binary"
	"encoding/hex"
	"math"
	"math/rand/v2"
	"reflect"
	"strings"
	"testing"
	"unicode/utf8"

	"mintvault/api"
	"mintvault/wire"
)

func number(n uint64) api.Item       { return api.Item{Kind: api.Uint, Num: n} }
func negative(n uint64) api.Item     { return api.Item{Kind: api.Neg, Num: n} }
func data(s string) api.Item         { return api.Item{Kind: api.Bytes, Data: []byte(s)} }
func text(s string) api.Item         { return api.Item{Kind: api.Text, Data: []byte(s)} }
func array(l ...api.Item) api.Item   { return api.Item{Kind: api.Array, List: l} }
func pairs(l ...api.Item) api.Item   { return api.Item{Kind: api.Map, List: l} }
func simple(n uint64) api.Item       { return api.Item{Kind: api.Simple, Num: n} }
func textOf(n int) api.Item          { return text(strings.Repeat("x", n)) }
func repeated(n int) []api.Item      { return make([]api.Item, n) }
func bytesOf(i api.Item) []byte      { return append(headOf(i.Kind, counted(i)), bodyOf(i)...) }
func unhex(s string) []byte          { b, _ := hex.DecodeString(s); return b }
func some(n int, seed string) []byte { return sha3.SumSHAKE128([]byte(seed), n) }

// edges are the numbers at which a head becomes longer.
func edges() []uint64 {
	return []uint64{0, 1, 22, 23, 24, 25, 254, 255, 256, 257, 65534, 65535, 65536, 65537, 1<<32 - 2, 1<<32 - 1, 1 << 32, 1<<32 + 1, 1 << 63, math.MaxUint64 - 1, math.MaxUint64}
}

// headIn writes a head in so many bytes behind the first one, fit or not.
func headIn(kind, size int, n uint64) []byte {
	first, whole := byte(kind<<5), binary.BigEndian.AppendUint64(nil, n)
	switch size {
	case 0:
		return []byte{first + byte(n)}
	case 1:
		return append([]byte{first + 24}, whole[7:]...)
	case 2:
		return append([]byte{first + 25}, whole[6:]...)
	case 4:
		return append([]byte{first + 26}, whole[4:]...)
	}
	return append([]byte{first + 27}, whole...)
}

// sizeOf is in how many bytes behind the first one a head has its number.
func sizeOf(n uint64) int {
	switch {
	case n <= 23:
		return 0
	case n <= 255:
		return 1
	case n <= 65535:
		return 2
	case n <= 4294967295:
		return 4
	}
	return 8
}

func headOf(kind int, n uint64) []byte { return headIn(kind, sizeOf(n), n) }

func counted(i api.Item) uint64 {
	switch i.Kind {
	case api.Bytes, api.Text:
		return uint64(len(i.Data))
	case api.Array:
		return uint64(len(i.List))
	case api.Map:
		return uint64(len(i.List) / 2)
	}
	return i.Num
}

func bodyOf(i api.Item) []byte {
	b := bytes.Clone(i.Data)
	for _, each := range i.List {
		b = append(b, bytesOf(each)...)
	}
	return b
}

// measure is how deep an item is, and how many there are in it.
func measure(i api.Item) (depth, items int) {
	for _, each := range i.List {
		d, n := measure(each)
		depth, items = max(depth, d), items+n
	}
	return depth + 1, items + 1
}

// fit: the kind is one, only what counts is there, and it is right, in all of it.
func fit(i api.Item) bool {
	n, d, l := i.Num != 0, len(i.Data) > 0, len(i.List) > 0
	ok := false
	switch i.Kind {
	case api.Uint, api.Neg:
		ok = !d && !l
	case api.Simple:
		ok = !d && !l && i.Num >= 20 && i.Num <= 22
	case api.Bytes:
		ok = !n && !l
	case api.Text:
		ok = !n && !l && utf8.Valid(i.Data)
	case api.Array:
		ok = !n && !d
	case api.Map:
		ok = !n && !d && len(i.List)%2 == 0
	}
	for _, each := range i.List {
		ok = ok && fit(each)
	}
	for k := 2; ok && i.Kind == api.Map && k < len(i.List); k += 2 {
		ok = string(bytesOf(i.List[k-2])) < string(bytesOf(i.List[k]))
	}
	return ok
}

// valid goes by the document's words, and only tells what is.
func valid(i api.Item) bool {
	depth, items := measure(i)
	return fit(i) && depth <= 16 && items <= 4096 && len(bytesOf(i)) <= 65536
}

// skim reads an item from the beginning of bytes, in whatever way it is written; what is left, and whether there is one.
func skim(b []byte) (i api.Item, rest []byte, ok bool) {
	if len(b) == 0 || b[0]&31 > 27 {
		return i, nil, false
	}
	n, size := uint64(b[0]&31), 0
	if n > 23 {
		size = 1 << (n - 24)
		if len(b) <= size {
			return i, nil, false
		}
		n = binary.BigEndian.Uint64(append(make([]byte, 8-size), b[1:1+size]...))
	}
	i.Kind, rest = int(b[0]>>5), b[1+size:]
	switch i.Kind {
	case api.Bytes, api.Text:
		if n > uint64(len(rest)) {
			return i, nil, false
		}
		i.Data, rest = rest[:n], rest[n:]
	case api.Array, api.Map:
		if n > uint64(len(rest)) {
			return i, nil, false
		}
		for range n * uint64(i.Kind-api.Array+1) {
			each, behind, ok := skim(rest)
			if !ok {
				return i, nil, false
			}
			i.List, rest = append(i.List, each), behind
		}
	default:
		i.Num = n
	}
	return i, rest, true
}

// itemOf is the valid item that has these bytes.
func itemOf(b []byte) (api.Item, bool) {
	i, rest, ok := skim(b)
	return i, ok && len(rest) == 0 && valid(i) && bytes.Equal(bytesOf(i), b)
}

func same(a, b api.Item) bool {
	if a.Kind != b.Kind || a.Num != b.Num || !bytes.Equal(a.Data, b.Data) || len(a.List) != len(b.List) {
		return false
	}
	for n := range a.List {
		if !same(a.List[n], b.List[n]) {
			return false
		}
	}
	return true
}

// prints holds that an item has these bytes, and these bytes that item.
func prints(t *testing.T, what string, i api.Item, want []byte) {
	t.Helper()
	b, errno := wire.Print(i)
	if errno != api.OK || !bytes.Equal(b, want) {
		t.Errorf("W1: %s: Print: %d bytes %s, %d, want %d bytes %s", what, len(b), begin(b), errno, len(want), begin(want))
	}
	back, errno := wire.Parse(want)
	if errno != api.OK || !same(back, i) {
		t.Errorf("W1: %s: Parse of %d bytes %s: %d, kind %d, number %d, %d bytes, %d items", what, len(want), begin(want), errno, back.Kind, back.Num, len(back.Data), len(back.List))
	}
}

func begin(b []byte) string { return hex.EncodeToString(b[:min(len(b), 40)]) }

// noItem also holds that an error comes alone (E4).
func noItem(t *testing.T, what string, b []byte, want api.Errno) {
	t.Helper()
	if i, errno := wire.Parse(b); errno != want || !reflect.DeepEqual(i, api.Item{}) {
		t.Errorf("W1: %s: Parse of %d bytes %s: %+v, %d, want %d", what, len(b), begin(b), i, errno, want)
	}
}

func notPrinted(t *testing.T, what string, i api.Item) {
	t.Helper()
	if b, errno := wire.Print(i); errno != api.ErrForm || len(b) != 0 {
		t.Errorf("W1: %s: Print: %d bytes %s, %d", what, len(b), begin(b), errno)
	}
}

// refused holds for an item that is not valid, and for what would be its bytes.
func refused(t *testing.T, what string, i api.Item) {
	t.Helper()
	notPrinted(t, what, i)
	noItem(t, what, bytesOf(i), api.ErrForm)
}

// chance makes the same items each time.
func chance(seed string) *rand.Rand {
	return rand.New(rand.NewChaCha8([32]byte(some(32, seed))))
}

// anyItem makes a valid one, unless its keys happen to be the same, or too much comes together.
func anyItem(r *rand.Rand, depth int) api.Item {
	kinds := []int{api.Uint, api.Neg, api.Bytes, api.Text, api.Simple, api.Array, api.Map}
	i := api.Item{Kind: kinds[r.IntN(len(kinds)-2*min(depth/5, 1))]}
	switch i.Kind {
	case api.Uint, api.Neg:
		i.Num = edges()[r.IntN(len(edges()))] + r.Uint64N(3)
	case api.Simple:
		i.Num = 20 + r.Uint64N(3)
	case api.Bytes:
		i.Data = some(r.IntN(40), "bytes")
	case api.Text:
		i.Data = []byte(strings.Repeat("aä€", r.IntN(12)))
	case api.Array:
		for range r.IntN(6) {
			i.List = append(i.List, anyItem(r, depth+1))
		}
	case api.Map:
		for range r.IntN(5) {
			i.List = insert(i.List, anyItem(r, depth+1), anyItem(r, depth+1))
		}
	}
	return i
}

// insert puts a key and its value where the key belongs.
func insert(l []api.Item, key, value api.Item) []api.Item {
	at := 0
	for at < len(l) && string(bytesOf(l[at])) < string(bytesOf(key)) {
		at += 2
	}
	return append(l[:at:at], append([]api.Item{key, value}, l[at:]...)...)
}

// guarded puts bytes into the middle of others, so that whatever is written beside them or over them shows.
type guarded struct {
	all    []byte
	before []byte
	b      []byte
}

func guard(b []byte) guarded {
	const room = 100
	all := some(len(b)+2*room, "around")
	copy(all[room:], b)
	return guarded{all, bytes.Clone(all), all[room : room+len(b)]}
}

func (g guarded) check(t *testing.T, what string) {
	t.Helper()
	if !bytes.Equal(g.all, g.before) {
		t.Errorf("E2: %s: what was handed in, or what lies around it, has changed", what)
	}
}
