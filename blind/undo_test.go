package blind_test

import (
	"testing"

	"mintvault/api"
	"mintvault/blind"
)

func TestUnblind(t *testing.T) {
	for _, r := range scalars() {
		for _, signed := range append(points(), nothing()) {
			for _, known := range append(points(), nothing()) {
				got, errno := blind.Unblind(signed, of(r), known)
				is(t, "L3: Unblind", got, errno, plus(signed, opposite(times(r, known))))
			}
		}
	}
}

func TestUnblindMayLeaveNothing(t *testing.T) {
	for _, r := range scalars() {
		for _, known := range points() {
			got, errno := blind.Unblind(times(r, known), of(r), known)
			is(t, "L3: nothing is left", got, errno, nothing())
		}
	}
}

func TestUnblindByNone(t *testing.T) {
	sound := append(points(), nothing())
	for _, r := range noScalars() {
		for _, signed := range append(noPoints(), sound...) {
			for _, known := range [][]byte{nil, nothing(), sound[0], signed} {
				got, errno := blind.Unblind(signed, r, known)
				fails(t, "L3: no scalar", got, errno, api.ErrScalar)
				got, errno = blind.Unblind(known, r, signed)
				fails(t, "L3: no scalar", got, errno, api.ErrScalar)
			}
		}
	}
}

func TestUnblindOfNone(t *testing.T) {
	for _, r := range scalars() {
		for _, none := range noPoints() {
			for _, one := range append(points(), nothing(), none) {
				got, errno := blind.Unblind(none, of(r), one)
				fails(t, "L3: signed is no point", got, errno, api.ErrPoint)
				got, errno = blind.Unblind(one, of(r), none)
				fails(t, "L3: public is no point", got, errno, api.ErrPoint)
			}
		}
	}
}

// The whole way of a token: whatever it was hidden with, one and the same signature comes of it.
func TestSignatureIsTheSame(t *testing.T) {
	for _, key := range keys() {
		for _, secret := range few() {
			for _, r := range scalars() {
				hidden := ok(blind.Blind(secret, of(r)))
				signed, proof, errno := blind.Sign(of(key), hidden)
				holds(t, "L2: Right", errno == api.OK && blind.Right(public(key), hidden, signed, proof))
				got, errno := blind.Unblind(signed, of(r), public(key))
				is(t, "L3: the token's signature", got, errno, times(key, tokenPoint(secret)))
				holds(t, "L4: Valid", blind.Valid(of(key), secret, got))
			}
		}
	}
}

// Whoever undoes it with another r, or another public key, has no signature.
func TestUnblindWithAnother(t *testing.T) {
	key, r, secret := ordinary("key"), ordinary("r"), []byte("a")
	signed, _, _ := blind.Sign(of(key), hiddenBy(r, secret))
	wrong(t, "L3: another r", blind.Valid(of(key), secret, ok(blind.Unblind(signed, of(add(r, count(1))), public(key)))))
	wrong(t, "L3: another public key", blind.Valid(of(key), secret, ok(blind.Unblind(signed, of(r), public(ordinary("other key"))))))
	wrong(t, "L3: not undone", blind.Valid(of(key), secret, signed))
}
