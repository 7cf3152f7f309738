package span

import (
	"testing"

	"mintvault/scalar"
)

func TestChallenge(t *testing.T) {
	l, other := newLog("label"), scalar.NewLog("label")
	l.Say("a", []byte("b"))
	other.Say("a", []byte("b"))
	for range 3 {
		if l.Challenge() != other.Challenge() {
			t.Error("a challenge is not that of chapter 5")
		}
	}
}
