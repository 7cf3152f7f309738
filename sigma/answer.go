package sigma

import "mintvault/scalar"

// answerTo hides the secret behind the nonce.
func answerTo(challenge, nonce, secret scalar.Scalar) scalar.Scalar {
	return nonce.Plus(challenge.Times(secret))
}

// firstOf is what the first message must have been for the answer to be right: whoever looks needs no nonce for it.
func firstOf(base, public point, challenge, answer scalar.Scalar) point {
	return sum(term{answer, base}, term{challenge.Opposite(), public})
}
