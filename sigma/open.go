package sigma

import (
	"mintvault/curve"
	"mintvault/scalar"
)

func openChallenge(commit, first curve.Point) scalar.Scalar {
	log := scalar.NewLog("open")
	log.Say("commit", commit[:])
	log.Say("first", first[:])
	return log.Challenge()
}
