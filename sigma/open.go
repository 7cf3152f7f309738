package sigma

import "mintvault/scalar"

func openChallenge(commit, first point) scalar.Scalar {
	log := scalar.NewLog("open")
	log.Say("commit", commit[:])
	log.Say("first", first[:])
	return log.Challenge()
}
