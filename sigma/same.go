package sigma

import "mintvault/scalar"

// pair is what one scalar makes of G, and of a base.
type pair struct {
	a, b point
}

func pairOf(n scalar.Scalar, base point) pair {
	return pair{times(n, generator()), times(n, base)}
}

func sameChallenge(base point, public, first pair) scalar.Scalar {
	log := scalar.NewLog("same")
	log.Say("base", base[:])
	log.Say("a", public.a[:])
	log.Say("b", public.b[:])
	log.Say("first", first.a[:])
	log.Say("second", first.b[:])
	return log.Challenge()
}
