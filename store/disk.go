package store

// disk is what stays when the power goes, which may be while something is written.
type disk struct {
	written []byte
	limit   int
	left    int // how many more bytes can reach it
	off     bool
}

func empty(limit int) disk { return disk{limit: limit, left: limit} }

// allow takes as many bytes as the disk has room for, when it is empty, for any number: more are never written.
func (d *disk) allow(n int) {
	if n < 0 {
		n = d.limit
	}
	d.left = n
}

func (d *disk) hasRoom(n int) bool { return n <= d.limit-len(d.written) }

// write tells whether all of it has reached the disk; if not, the power went behind the last byte that has.
func (d *disk) write(b []byte) bool {
	n := min(len(b), d.left)
	d.written = append(d.written, b[:n]...)
	d.left -= n
	d.off = n < len(b)
	return !d.off
}
