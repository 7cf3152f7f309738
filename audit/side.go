package audit

import (
	"mintvault/api"
	"mintvault/keys"
	"mintvault/scalar"
)

// side is one of the two that an operation has: what came in, or what went out.
type side struct {
	blind, proof string              // the labels of its blind, and of the seed of its proof
	amount       func(api.Op) uint64 // what moved there
	weight       scalar.Scalar       // how often it counts in the sum of all
}

// sides are the two, in the order in which an entry has them.
func sides() []side {
	return []side{
		{"in", "proof in", func(op api.Op) uint64 { return op.In }, scalar.Of(1).Opposite()},
		{"out", "proof out", func(op api.Op) uint64 { return op.Out }, scalar.Of(1)},
	}
}

func (s side) blindOf(seed []byte, number uint32) scalar.Scalar {
	b, _ := keys.Scalar(seed, s.blind, []uint32{number})
	blind, _ := scalar.Read(b)
	return blind
}

func (s side) proofSeed(seed []byte, number uint32) []byte {
	b, _ := keys.Derive(seed, s.proof, []uint32{number})
	return b
}
