package audit_test

import (
	"bytes"
	"crypto/sha3"
	"encoding/binary"
	"math/big"
	"slices"
	"strconv"
	"testing"

	"mintvault/api"
	"mintvault/audit"
	"mintvault/group"
	"mintvault/keys"
	"mintvault/span"
	"mintvault/tree"
)

const (
	size   = 1313
	proofs = 67 // where the first proof begins
	proof  = 623
	below  = 1<<32 - 1
)

// some makes n bytes; other seeds make others.
func some(n int, seed string) []byte { return sha3.SumSHAKE128([]byte(seed), n) }

func seed() []byte { return some(32, "seed") }

func ok(b []byte, errno api.Errno) []byte {
	if errno != api.OK {
		panic(errno)
	}
	return b
}

func order() *big.Int {
	gap, _ := new(big.Int).SetString("432420386565659656852420866394968145599", 10)
	return gap.Sub(new(big.Int).Lsh(big.NewInt(1), 256), gap)
}

func number(b []byte) *big.Int { return new(big.Int).SetBytes(b) }

// of is the scalar that a number is modulo Order, whole its 32 bytes as they are.
func of(n *big.Int) []byte { return whole(new(big.Int).Mod(n, order())) }

func whole(n *big.Int) []byte { return n.FillBytes(make([]byte, 32)) }

func small(n int64) []byte { return of(big.NewInt(n)) }

func word(n uint64) []byte { return binary.BigEndian.AppendUint64(make([]byte, 24), n) }

func nothing() []byte { return make([]byte, 33) }

// made holds what takes long to make, by what it hangs on.
var made = map[string][]byte{}

func once(name string, make func() []byte) []byte {
	if made[name] == nil {
		made[name] = make()
	}
	return bytes.Clone(made[name])
}

// part is one side of an entry.
type part struct {
	amount uint64
	blind  []byte
	seed   []byte
}

func (p part) commit() []byte { return ok(group.Commit(word(p.amount), p.blind)) }

func (p part) proof() []byte {
	return once("proof "+strconv.FormatUint(p.amount, 10)+string(p.blind)+string(p.seed), func() []byte {
		r, errno := span.Prove(p.amount, p.blind, 32, p.seed)
		if errno != api.OK {
			panic(errno)
		}
		return ok(span.Put(r))
	})
}

// laid is an entry out of its two sides.
func laid(kind byte, in, out part) []byte {
	return slices.Concat([]byte{kind}, in.commit(), out.commit(), in.proof(), out.proof())
}

func blindOf(seed []byte, label string, i int) []byte {
	return ok(keys.Scalar(seed, label, []uint32{uint32(i)}))
}

func partOf(seed []byte, label string, i int, amount uint64) part {
	return part{amount, blindOf(seed, label, i), ok(keys.Derive(seed, "proof "+label, []uint32{uint32(i)}))}
}

// entryOf is the entry of an operation, as the document says it.
func entryOf(seed []byte, i int, op api.Op) []byte {
	return laid(byte(op.Kind), partOf(seed, "in", i, op.In), partOf(seed, "out", i, op.Out))
}

// books are entries, and what they are closed with.
type books struct {
	entries [][]byte
	closing api.Closing
}

// closed is the books of operations, as the document says them.
func closed(seed []byte, total uint64, ops ...api.Op) books {
	b := books{closing: api.Closing{Count: len(ops), Total: total}}
	blind := new(big.Int)
	for i, op := range ops {
		b.entries = append(b.entries, entryOf(seed, i, op))
		blind.Add(blind, number(blindOf(seed, "out", i)))
		blind.Sub(blind, number(blindOf(seed, "in", i)))
	}
	b.closing.Blind = of(blind)
	return b.rooted()
}

// rooted has the root of its entries.
func (b books) rooted() books {
	b.closing.Root, _ = tree.Root(b.entries)
	return b
}

// copied shares nothing with b.
func (b books) copied() books {
	c := books{closing: b.closing}
	for _, e := range b.entries {
		c.entries = append(c.entries, bytes.Clone(e))
	}
	c.closing.Root, c.closing.Blind = bytes.Clone(b.closing.Root), bytes.Clone(b.closing.Blind)
	return c
}

// same takes nil and lists without entries for the same (E3).
func (b books) same(c books) bool {
	return slices.EqualFunc(b.entries, c.entries, bytes.Equal) && b.closing.Count == c.closing.Count && b.closing.Total == c.closing.Total &&
		bytes.Equal(b.closing.Root, c.closing.Root) && bytes.Equal(b.closing.Blind, c.closing.Blind)
}

// is holds what Check says.
func (b books) is(t *testing.T, what string, want bool) {
	t.Helper()
	if audit.Check(b.entries, b.closing) != want {
		t.Errorf("A3: %s: %v", what, !want)
	}
}

// changed is a copy with which something is done.
func (b books) changed(change func(*books)) books {
	c := b.copied()
	change(&c)
	return c
}

// with has another byte at a place.
func with(b []byte, place int, c byte) []byte {
	b = bytes.Clone(b)
	b[place] = c
	return b
}

// flipped differs in one bit of the byte at a place.
func flipped(b []byte, place int) []byte { return with(b, place, b[place]^1<<(place%8)) }

// over has other bytes from a place on.
func over(b []byte, place int, other []byte) []byte {
	b = bytes.Clone(b)
	copy(b[place:], other)
	return b
}

// isNone holds that nothing stands beside an errno (E4).
func isNone(b books) bool {
	return len(b.entries) == 0 && b.closing.Count == 0 && b.closing.Total == 0 && len(b.closing.Root) == 0 && len(b.closing.Blind) == 0
}

// otherSeeds have not 32 bytes.
func otherSeeds() [][]byte {
	return [][]byte{nil, {}, {1}, seed()[:31], append(seed(), 0), some(64, "seed")}
}

func otherKinds() []int { return []int{0, 4, 5, -1, -2, 255, 256, 257, 259, 1<<32 + 1, -1 << 63} }

func otherNumbers() []int {
	return []int{-1, -2, 1 << 20, 1<<20 + 1, 1 << 32, 1<<32 + 1, -1 << 63, 1<<63 - 1}
}

func greatAmounts() []uint64 {
	return []uint64{1 << 32, 1<<32 + 1, 1 << 33, 1 << 63, 1<<64 - 1}
}
