package sigma

import (
	"mintvault/curve"
	"mintvault/scalar"
)

// pair is what one scalar makes of G, and of a base.
type pair struct {
	a, b curve.Point
}

func pairOf(n scalar.Scalar, base curve.Point) pair {
	return pair{times(n, curve.Generator()), times(n, base)}
}

func sameChallenge(base curve.Point, public, first pair) scalar.Scalar {
	log := scalar.NewLog("same")
	log.Say("base", base[:])
	log.Say("a", public.a[:])
	log.Say("b", public.b[:])
	log.Say("first", first.a[:])
	log.Say("second", first.b[:])
	return log.Challenge()
}
