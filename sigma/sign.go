package sigma

import "mintvault/scalar"

const maxBatch = 64

// signed is a signature, and what is needed to look at it.
type signed struct {
	public, first     point
	challenge, answer scalar.Scalar
}

func readSigned(public, text, signature []byte) (signed, bool) {
	p, okPublic := readSome(public)
	first, answer, okProof := readProof(signature, 1, 1)
	if !okPublic || !okProof {
		return signed{}, false
	}
	return signed{p, first[0], signChallenge(p, first[0], text), answer[0]}, true
}

func (s signed) right() bool {
	return firstOf(generator(), s.public, s.challenge, s.answer) == s.first
}

func signChallenge(public, first point, text []byte) scalar.Scalar {
	log := scalar.NewLog("sign")
	log.Say("public", public[:])
	log.Say("first", first[:])
	log.Say("text", text)
	return log.Challenge()
}

// weights hang on all that is looked at together: so nobody can choose faults that make up for each other.
func weights(publics, texts, signatures [][]byte) []scalar.Scalar {
	log := scalar.NewLog("batch")
	for i := range publics {
		log.Say("public", publics[i])
		log.Say("text", texts[i])
		log.Say("sign", signatures[i])
	}
	all := make([]scalar.Scalar, len(publics))
	for i := range all {
		all[i] = log.Scalar("weight")
	}
	return all
}

// rightTogether makes one sum of all, so that what a sum doubles on its way is doubled once for all of them.
func rightTogether(all []signed, weights []scalar.Scalar) bool {
	var answers scalar.Scalar
	var terms []term
	for i, s := range all {
		w := weights[i]
		answers = answers.Plus(w.Times(s.answer))
		terms = append(terms, term{w, s.first}, term{w.Times(s.challenge), s.public})
	}
	return sum(terms...) == times(answers, generator())
}
