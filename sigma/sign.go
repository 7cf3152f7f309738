package sigma

import (
	"mintvault/curve"
	"mintvault/scalar"
)

const maxBatch = 64

// signed is a signature, and what is needed to look at it.
type signed struct {
	public, first     curve.Point
	challenge, answer scalar.Scalar
}

func readSigned(public, text, signature []byte) (signed, bool) {
	p, okPublic := curve.ReadSome(public)
	first, answer, okProof := readProof(signature, 1, 1)
	if !okPublic || !okProof {
		return signed{}, false
	}
	return signed{p, first[0], signChallenge(p, first[0], text), answer[0]}, true
}

func (s signed) right() bool {
	return firstOf(curve.Generator(), s.public, s.challenge, s.answer) == s.first
}

func signChallenge(public, first curve.Point, text []byte) scalar.Scalar {
	log := scalar.NewLog("sign")
	log.Say("public", public[:])
	log.Say("first", first[:])
	log.Say("text", text)
	return log.Challenge()
}

// weights hang on all that is looked at together: so nobody can choose faults that make up for each other.
func weights(publics, texts, signatures [][]byte) []scalar.Scalar {
	log := scalar.NewLog("batch")
	for i := range publics {
		log.Say("public", publics[i])
		log.Say("text", texts[i])
		log.Say("sign", signatures[i])
	}
	all := make([]scalar.Scalar, len(publics))
	for i := range all {
		all[i] = log.Scalar("weight")
	}
	return all
}

// rightTogether makes one sum of all, so that what a sum doubles on its way is doubled once for all of them.
func rightTogether(all []signed, weights []scalar.Scalar) bool {
	var answers scalar.Scalar
	var points curve.Sum
	for i, s := range all {
		w := weights[i]
		answers = answers.Plus(w.Times(s.answer))
		points = points.Plus(s.first.Times(w)).Plus(s.public.Times(w.Times(s.challenge)))
	}
	return points.Point() == times(answers, curve.Generator())
}
