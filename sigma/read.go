package sigma

import (
	"slices"

	"mintvault/curve"
	"mintvault/parse"
	"mintvault/scalar"
)

// readProof takes bytes as so many points and behind them so many scalars, if they are just that.
func readProof(b []byte, points, scalars int) ([]curve.Point, []scalar.Scalar, bool) {
	edge := points * curve.Size
	if len(b) != edge+scalars*scalar.Size {
		return nil, nil, false
	}
	p, okPoints := parse.All(curve.Read, slices.Collect(slices.Chunk(b[:edge], curve.Size))...)
	s, okScalars := parse.All(scalar.Read, slices.Collect(slices.Chunk(b[edge:], scalar.Size))...)
	return p, s, okPoints && okScalars
}
