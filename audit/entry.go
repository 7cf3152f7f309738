package audit

import (
	"slices"

	"mintvault/api"
	"mintvault/curve"
	"mintvault/parse"
	"mintvault/scalar"
	"mintvault/span"
)

const (
	maxNumber = 1<<20 - 1
	width     = 32 // bits of an amount
	maxAmount = 1<<width - 1
	proofSize = 623 // what Put makes of a proof of so many bits
	head      = 1 + 2*curve.Size
	entrySize = head + 2*proofSize
)

func isKind(kind int) bool { return kind >= api.Issue && kind <= api.Pay }

// wrong tells what is wrong with an operation, or with its number.
func wrong(number int, op api.Op) api.Errno {
	if !isKind(op.Kind) {
		return api.ErrForm
	}
	if number < 0 || number > maxNumber {
		return api.ErrRange
	}
	for _, s := range sides() {
		if s.amount(op) > maxAmount {
			return api.ErrRange
		}
	}
	return api.OK
}

// written is the entry of an operation with which nothing is wrong.
func written(seed []byte, number uint32, op api.Op) []byte {
	var commits, proofs []byte
	for _, s := range sides() {
		amount, blind := s.amount(op), s.blindOf(seed, number)
		commits = append(commits, curve.Commit(scalar.Of(amount), blind).Bytes()...)
		proof, _ := span.Prove(amount, blind.Bytes(), width, s.proofSeed(seed, number))
		b, _ := span.Put(proof)
		proofs = append(proofs, b...)
	}
	return slices.Concat([]byte{byte(op.Kind)}, commits, proofs)
}

// read is the commitments of an entry, one of each side, if it is right.
func read(entry []byte) ([]curve.Point, bool) {
	if len(entry) != entrySize || !isKind(int(entry[0])) {
		return nil, false
	}
	commits, okCommits := parse.All(curve.Read, pieces(entry[1:head], curve.Size)...)
	proofs, okProofs := parse.All(readProof, pieces(entry[head:], proofSize)...)
	if !okCommits || !okProofs {
		return nil, false
	}
	for i, commit := range commits {
		if !span.Verify(commit.Bytes(), width, proofs[i]) {
			return nil, false
		}
	}
	return commits, true
}

func pieces(b []byte, size int) [][]byte { return slices.Collect(slices.Chunk(b, size)) }

func readProof(b []byte) (api.Range, bool) {
	proof, errno := span.Read(b)
	return proof, errno == api.OK
}
