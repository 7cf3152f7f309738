package blind_test

import (
	"encoding/hex"
	"testing"

	"mintvault/api"
	"mintvault/blind"
)

func TestLift(t *testing.T) {
	for _, secret := range secrets() {
		got, errno := blind.Lift(secret)
		is(t, "L1: Lift", got, errno, tokenPoint(secret))
	}
}

func TestLiftOfTheExample(t *testing.T) {
	want, _ := hex.DecodeString("0237931eb4266c902306deeded603b63d2baf94d225c0554c64e4f34d6ca5d4100")
	got, errno := blind.Lift([]byte("a"))
	is(t, "L1: Lift of `a`", got, errno, want)
}

func TestLiftOfNone(t *testing.T) {
	for _, secret := range noSecrets() {
		got, errno := blind.Lift(secret)
		fails(t, "L1: Lift of none", got, errno, api.ErrForm)
	}
}

func TestBlind(t *testing.T) {
	for _, r := range scalars() {
		for _, secret := range append(few(), []byte("a")) {
			got, errno := blind.Blind(secret, of(r))
			is(t, "L1: Blind", got, errno, hiddenBy(r, secret))
		}
	}
	for _, secret := range secrets() {
		got, errno := blind.Blind(secret, of(ordinary("r")))
		is(t, "L1: Blind", got, errno, hiddenBy(ordinary("r"), secret))
	}
}

func TestBlindBy0HidesNothing(t *testing.T) {
	got, errno := blind.Blind([]byte("a"), make([]byte, 32))
	is(t, "L1: Blind by 0", got, errno, tokenPoint([]byte("a")))
}

func TestBlindByNone(t *testing.T) {
	for _, r := range noScalars() {
		for _, secret := range few() {
			got, errno := blind.Blind(secret, r)
			fails(t, "L1: Blind by no scalar", got, errno, api.ErrScalar)
		}
	}
}

func TestBlindOfNone(t *testing.T) {
	for _, secret := range noSecrets() {
		for _, r := range scalars() {
			got, errno := blind.Blind(secret, of(r))
			fails(t, "L1: Blind of none", got, errno, api.ErrForm)
		}
		for _, r := range noScalars() {
			got, errno := blind.Blind(secret, r)
			fails(t, "L1: Blind of none by none", got, errno, api.ErrForm)
		}
	}
}
