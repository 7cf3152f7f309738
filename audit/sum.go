package audit

import (
	"mintvault/api"
	"mintvault/curve"
	"mintvault/scalar"
)

// balance is what went out less what came in, or what is wrong with the operations. No sum of so few is too great for a word.
func balance(ops []api.Op) (uint64, api.Errno) {
	var in, out uint64
	for i, op := range ops {
		if errno := wrong(i, op); errno != api.OK {
			return 0, errno
		}
		in, out = in+op.In, out+op.Out
	}
	if in > out {
		return 0, api.ErrSum
	}
	return out - in, api.OK
}

// opening is the blind that all of so many operations have together.
func opening(seed []byte, count int) scalar.Scalar {
	var all scalar.Scalar
	for i := range count {
		for _, s := range sides() {
			all = all.Plus(s.blindOf(seed, uint32(i)).Times(s.weight))
		}
	}
	return all
}

// summed is what all entries hide together, if they are right.
func summed(entries [][]byte) (curve.Point, bool) {
	var all curve.Sum
	for _, entry := range entries {
		commits, ok := read(entry)
		if !ok {
			return curve.Point{}, false
		}
		for i, s := range sides() {
			all = all.Plus(commits[i].Times(s.weight))
		}
	}
	return all.Point(), true
}
