package sponge

import "mintvault/api"

const maxAsk = 1024

// Log is what was said so far.
type Log struct {
	said [hashBytes]byte
}

// NewLog begins one.
func NewLog(label string) *Log {
	l := new(Log)
	l.become("log", []byte(label))
	return l
}

// Say adds something to it.
func (l *Log) Say(label string, b []byte) {
	l.become("say", l.said[:], []byte(label), b)
}

// Ask is n bytes that hang on all that was said.
func (l *Log) Ask(label string, n int) ([]byte, api.Errno) {
	if n < 0 || n > maxAsk {
		return nil, api.ErrLong
	}
	out, e := Stream(Tag("ask", [][]byte{l.said[:], []byte(label)}), n)
	l.become("asked", l.said[:], []byte(label))
	return out, e
}

// Clone is another one in which the same was said.
func (l *Log) Clone() *Log {
	other := *l
	return &other
}

func (l *Log) become(label string, parts ...[]byte) {
	copy(l.said[:], Tag(label, parts))
}
