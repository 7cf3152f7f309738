package sigma

import (
	"mintvault/curve"
	"mintvault/scalar"
)

// answerTo hides the secret behind the nonce.
func answerTo(challenge, nonce, secret scalar.Scalar) scalar.Scalar {
	return nonce.Plus(challenge.Times(secret))
}

// firstOf is what the first message must have been for the answer to be right: whoever looks needs no nonce for it.
func firstOf(base, public curve.Point, challenge, answer scalar.Scalar) curve.Point {
	return base.Times(answer).Minus(public.Times(challenge)).Point()
}

// times is worked out on the spot.
func times(n scalar.Scalar, a curve.Point) curve.Point { return a.Times(n).Point() }
