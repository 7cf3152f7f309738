package span

import (
	"testing"

	"mintvault/scalar"
)

// No known log has a challenge of 0, so what becomes of one is looked at from within.
func TestOrOne(t *testing.T) {
	if orOne(scalar.Of(0)) != scalar.Of(1) {
		t.Error("0 does not become 1")
	}
	for _, n := range []scalar.Scalar{scalar.Of(1), scalar.Of(2), scalar.Of(1).Opposite(), scalar.Chance("a")} {
		if orOne(n) != n {
			t.Errorf("%x becomes another", n.Bytes())
		}
	}
}

func TestChallenge(t *testing.T) {
	l, other := newLog("label"), scalar.NewLog("label")
	l.Say("a", []byte("b"))
	other.Say("a", []byte("b"))
	for range 3 {
		if l.Challenge() != other.Challenge() {
			t.Error("a challenge is not that of chapter 5")
		}
	}
}
