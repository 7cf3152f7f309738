package scalar

import "mintvault/sponge"

// Log is a log that can be asked for scalars, too.
type Log struct {
	*sponge.Log
}

// NewLog begins one.
func NewLog(label string) Log { return Log{sponge.NewLog(label)} }

// Scalar is one that hangs on all that was said.
func (l Log) Scalar(label string) Scalar {
	b, _ := l.Ask(label, wide)
	return reduced(b)
}

// Challenge is the scalar that a proof must answer.
func (l Log) Challenge() Scalar { return l.Scalar("challenge") }
