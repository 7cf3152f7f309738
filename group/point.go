package group

import "mintvault/residue"

const (
	pointBytes = 33
	evenMark   = 2
	oddMark    = 3
)

// point is a pair of coordinates on the curve. The pair of zeros, which does not lie on it, is nothing.
type point struct {
	x, y residue.Number
}

// base is G.
func base() point {
	return point{
		x: residue.Number{0x59f2815b16f81798, 0x029bfcdb2dce28d9, 0x55a06295ce870b07, 0x79be667ef9dcbbac},
		y: residue.Number{0x9c47d08ffb10d4b8, 0xfd17b448a6855419, 0x5da4fbfc0e1108a8, 0x483ada7726a3c465},
	}
}

// above is the point with this x and an even y, if there is one.
func above(x residue.Number) (point, bool) {
	p := residue.Coordinates()
	square := p.Plus(p.Times(p.Times(x, x), x), residue.Number{7})
	y, ok := p.Root(square)
	if !ok {
		return point{}, false
	}
	return point{x, y}, true
}

// readPoint takes bytes as a point, if they are those of one.
func readPoint(b []byte) (point, bool) {
	if len(b) != pointBytes {
		return point{}, false
	}
	if [pointBytes]byte(b) == [pointBytes]byte{} {
		return point{}, true
	}
	if b[0] != evenMark && b[0] != oddMark {
		return point{}, false
	}
	x, ok := residue.Coordinates().Read(b[1:])
	if !ok {
		return point{}, false
	}
	a, ok := above(x)
	if ok && b[0] == oddMark {
		a = a.opposite()
	}
	return a, ok
}

// bytes are in new memory.
func (a point) bytes() []byte {
	if a == (point{}) {
		return make([]byte, pointBytes)
	}
	mark := byte(evenMark)
	if a.y.Odd() {
		mark = oddMark
	}
	return append([]byte{mark}, a.x.Bytes()...)
}

// opposite leaves nothing as it is: its y is 0.
func (a point) opposite() point {
	return point{a.x, residue.Coordinates().Minus(residue.Number{}, a.y)}
}
