package wire

import (
	"bytes"

	"mintvault/api"
)

type reader struct {
	walk
	rest []byte
}

// read is the item of which these are all the bytes.
func read(b []byte) api.Item {
	r := reader{walk: walk{kinds: kinds()}, rest: b}
	i := r.item()
	must(len(r.rest) == 0)
	return i
}

func (r *reader) item() api.Item {
	which, n := r.head()
	k := r.enter(which)
	i := k.read(r, n)
	i.Kind = which
	must(k.valid(i))
	r.leave()
	return i
}

// head holds what it has read against the only head that there is, and so refuses all others.
func (r *reader) head() (which int, n uint64) {
	from := r.rest
	first := r.bytes(1)[0]
	which, n = int(first>>5), uint64(first&31)
	if n >= inMoreBytes {
		must(n <= inMoreBytes+3)
		n = numberOf(r.bytes(1 << (n - inMoreBytes)))
	}
	must(bytes.Equal(headOf(which, n), r.since(from)))
	return which, n
}

func numberOf(b []byte) uint64 {
	n := uint64(0)
	for _, x := range b {
		n = n<<8 | uint64(x)
	}
	return n
}

// since is what was read since the rest was that.
func (r *reader) since(rest []byte) []byte {
	return rest[:len(rest)-len(r.rest)]
}

func (r *reader) bytes(n uint64) []byte {
	must(n <= uint64(len(r.rest)))
	b := r.rest[:n]
	r.rest = r.rest[n:]
	return b
}

// items grows its list as they come: a head may tell of far more than there are.
func (r *reader) items(n uint64) []api.Item {
	var l []api.Item
	for range n {
		l = append(l, r.item())
	}
	return l
}

func (r *reader) pairs(n uint64) []api.Item {
	var l []api.Item
	var last []byte
	for range n {
		from := r.rest
		l = append(l, r.item())
		last = rise(last, r.since(from))
		l = append(l, r.item())
	}
	return l
}
