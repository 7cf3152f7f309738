package world

import (
	"bytes"
	"slices"

	"mintvault/api"
)

func (s *state) answerTo(q asked) answer {
	signed, errno := s.mint.Do(q.request)
	return answer{q, signed, errno}
}

// tell tells a wallet what the mint has said, if it waits for just that.
func (s *state) tell(x answer) {
	w := s.owners[x.who]
	if r, open := w.Asked(); !open || !isSame(r, x.request) {
		return
	}
	switch x.errno {
	case api.OK:
		w.Answer(x.signed)
	case api.ErrPower, api.ErrFull, api.ErrQuote: // the mint may do it yet
	default:
		w.Refused()
	}
}

func isSame(a, b api.Request) bool {
	return a.Kind == b.Kind && a.Name == b.Name && a.Amount == b.Amount && slices.EqualFunc(a.In, b.In, isSameToken) && slices.EqualFunc(a.Out, b.Out, isSameOutput)
}

func isSameToken(a, b api.Token) bool {
	return a.Amount == b.Amount && bytes.Equal(a.Keys, b.Keys) && bytes.Equal(a.Secret, b.Secret) && bytes.Equal(a.Sign, b.Sign)
}

func isSameOutput(a, b api.Hidden) bool { return a.Amount == b.Amount && bytes.Equal(a.Point, b.Point) }
