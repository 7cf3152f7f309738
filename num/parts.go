package num

import (
	"mintvault/api"
	"mintvault/residue"
)

// byKind picks the one at the kind's place; a kind that has no place in the list is none there.
func byKind[T any](kind api.Modulus, each ...T) (T, api.Errno) {
	if kind < 0 || int(kind) >= len(each) {
		var none T
		return none, api.ErrForm
	}
	return each[kind], api.OK
}

func primeOf(kind api.Modulus) (residue.Prime, api.Errno) {
	return byKind(kind, residue.Coordinates(), residue.Scalars())
}

// numbers reads all of them, or none: one that is no number of the prime is an error of the whole call.
func numbers(p residue.Prime, given ...[]byte) ([]residue.Number, api.Errno) {
	read := make([]residue.Number, len(given))
	for i, b := range given {
		n, ok := p.Read(b)
		if !ok {
			return nil, api.ErrScalar
		}
		read[i] = n
	}
	return read, api.OK
}

// ofTwo is all that the operations with two numbers have in common.
func ofTwo(kind api.Modulus, a, b []byte, operation func(residue.Prime, residue.Number, residue.Number) residue.Number) ([]byte, api.Errno) {
	p, errno := primeOf(kind)
	if errno != api.OK {
		return nil, errno
	}
	n, errno := numbers(p, a, b)
	if errno != api.OK {
		return nil, errno
	}
	return operation(p, n[0], n[1]).Bytes(), api.OK
}
