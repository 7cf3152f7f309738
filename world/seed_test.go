package world

import (
	"bytes"
	"crypto/sha3"
	"encoding/binary"
	"reflect"
	"testing"

	"mintvault/api"
	"mintvault/blind"
	"mintvault/keys"
)

// tag is Tag by the library's hash.
func tag(label string, parts ...[]byte) []byte {
	h := sha3.New256()
	for _, part := range append([][]byte{[]byte(label)}, parts...) {
		h.Write(binary.BigEndian.AppendUint32(nil, uint32(len(part))))
		h.Write(part)
	}
	return h.Sum(nil)
}

// The seeds are those that the document says: the mint's by no path, a wallet's by its number.
func TestSeedsOfAll(t *testing.T) {
	w := worldOf(4)
	s := begun(w)
	set, errno := keys.Set(tag("key", w.Seed, []byte("mint")), 0)
	if errno != api.OK || !reflect.DeepEqual(s.mint.Keys(), set) {
		t.Errorf("P1: the mint's keys are %x, want %x", s.mint.Keys().Name, set.Name)
	}
	for who := range 4 {
		child := tag("child", w.Seed, []byte{0, 0, 0, byte(who)})
		seed := tag("key", child, []byte("wallet"))
		secret, _ := keys.Derive(seed, "token", []uint32{0})
		r, _ := keys.Scalar(seed, "blind", []uint32{0})
		want, _ := blind.Blind(secret, r)
		s.act(ask(who, "a", 1))
		if got := s.requests[who].request.Out[0].Point; !bytes.Equal(got, want) {
			t.Errorf("P1: the first output of wallet %d is %x, want %x", who, got, want)
		}
	}
}
