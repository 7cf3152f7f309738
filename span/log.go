package span

import (
	"mintvault/curve"
	"mintvault/scalar"
)

// log is one whose challenges are never 0, because they are divided by.
type log struct {
	scalar.Log
}

func newLog(label string) log { return log{scalar.NewLog(label)} }

// Challenge stands ahead of the one that the log has from within.
func (l log) Challenge() scalar.Scalar { return l.Log.Challenge().OrOne() }

// challengeAfter says two points ahead of asking.
func (l log) challengeAfter(firstLabel string, first curve.Point, secondLabel string, second curve.Point) scalar.Scalar {
	l.Say(firstLabel, first[:])
	l.Say(secondLabel, second[:])
	return l.Challenge()
}

func productLog(label string, hiding curve.Point) log {
	l := newLog("product")
	l.Say("label", []byte(label))
	l.Say("point", hiding[:])
	return l
}
