package sigma

import (
	"slices"

	"mintvault/scalar"
)

// allOf reads all of them, or none.
func allOf[T any](read func([]byte) (T, bool), given ...[]byte) ([]T, bool) {
	all := make([]T, len(given))
	for i, b := range given {
		one, ok := read(b)
		if !ok {
			return nil, false
		}
		all[i] = one
	}
	return all, true
}

// readSecret takes bytes as a scalar that is not 0: that one hides nothing.
func readSecret(b []byte) (scalar.Scalar, bool) {
	x, ok := scalar.Read(b)
	return x, ok && x != scalar.Scalar{}
}

// readProof takes bytes as so many points and behind them so many scalars, if they are just that.
func readProof(b []byte, points, scalars int) ([]point, []scalar.Scalar, bool) {
	edge := points * pointBytes
	if len(b) != edge+scalars*scalar.Size {
		return nil, nil, false
	}
	p, okPoints := allOf(readPoint, slices.Collect(slices.Chunk(b[:edge], pointBytes))...)
	s, okScalars := allOf(scalar.Read, slices.Collect(slices.Chunk(b[edge:], scalar.Size))...)
	return p, s, okPoints && okScalars
}
