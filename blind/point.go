package blind

import (
	"mintvault/curve"
	"mintvault/scalar"
)

// maxSecret is how many bytes a token's secret has at most.
const maxSecret = 64

// lifted is the point of a secret, if it is one.
func lifted(secret []byte) (curve.Point, bool) {
	if len(secret) == 0 || len(secret) > maxSecret {
		return curve.Point{}, false
	}
	return curve.Hash("token", secret), true
}

// once is a point as a sum of itself alone, to reckon on with.
func once(a curve.Point) curve.Sum { return a.Times(scalar.Of(1)) }

// signer is what the mint does with a point, be it hidden or a token's own: one thing, so that both come out the same. The key stays within it. A key of 0 would make nothing of every point.
func signer(key []byte) (sign func(curve.Point) curve.Point, ok bool) {
	x, ok := scalar.ReadSome(key)
	if !ok {
		return nil, false
	}
	return func(a curve.Point) curve.Point { return a.Times(x).Point() }, true
}
